/-
  The document's own turn: doors are opened or closed (verb 12): the contract. Written by a program.
-/
import Derived.Test.YtaifjndkgfffpaaGreatDoorMgT
namespace Go.Proofs.YtaifjndkgfffpaaGreatDoor
open Go.RowKit
set_option linter.unusedVariables false

set_option maxRecDepth 100000 in
set_option maxHeartbeats 8000000 in
theorem tset_door12 {w0 : World} {L : Ld} {Es : List Ev} {w : World} {b : Nat} (hS : Sn 52 [.int .i64 (b : Int)] w0 L Es w) (hvr : Vr w0) (hb : b < 6) (O : Od) (hvb : O.verb = 12) (hf : Fine L) (d : Nat) (hd : d < 6) (hdir : dirA O.name.data.toList = ((d : Int), true)) (hn0 : -9223372036854775808 ≤ O.nth) (hn1 : O.nth ≤ 9223372036854775807) (hlen : Es.length ≤ 800000) :
    Calls Tryz.prog 22 #[.pointer (some ⟨w0.heap.size, 0, none⟩), .agg O.cells] w fun e w' => e = .returned (.tuple #[]) ∧ Sn 52 [.int .i64 (b : Int)] w0 (doorL L b d (turnedC 12)) (Es ++ doorE L b d (turnedC 12)) w' ∧ Stp w0.heap.size 166 w w' := by
  have hbi : (b : Int) < 6 := by omega
  have HVB := hide hvb
  have SZ := hide (hS.alloc (.cells O.cells 36))
  have TZ := hide (Stp.below (o := 166) (below_box w (.cells O.cells 36)) hS.lt)
  have GZ := hide (heap_alloc_new w (.cells O.cells 36))
  have KZ := hide (hS.kept (below_box w (.cells O.cells 36)) (Nat.le_refl _) (by simp))
  have o0 := cell_of_row _ w.heap.size 0 _ _ _ GZ.out
  rw [show O.cells[0]? = some (.int .i64 12) by rw [← HVB.out]; rfl] at o0
  clear hS hvb
  go_enter Tryz.func22, Tryz.ntmps22
  go_upto_region 1 with fail
  generalize w.alloc (.cells O.cells 36) = WZ at SZ TZ GZ KZ o0 ⊢
  have SY := hide (SZ.out.alloc (.cells #[.int .i64 3, .int .i64 1, .int .i64 2] 3))
  have TY := hide (TZ.out.trans (SZ.out.stp (below_box WZ (.cells #[.int .i64 3, .int .i64 1, .int .i64 2] 3)) 166))
  have KY := hide ((SZ.out.stp (below_box WZ (.cells #[.int .i64 3, .int .i64 1, .int .i64 2] 3)) 166).kept KZ.out).1
  have GY := hide (((SZ.out.stp (below_box WZ (.cells #[.int .i64 3, .int .i64 1, .int .i64 2] 3)) 166).kept KZ.out).2.trans GZ.out)
  have p0 := cell_of_row _ w.heap.size 0 _ _ _ GY.out
  rw [show O.cells[0]? = some (.int .i64 12) by rw [← HVB.out]; rfl] at p0
  have p3 := cell_of_row _ w.heap.size 3 _ _ _ GY.out
  rw [show O.cells[3]? = some (.string O.name) from rfl] at p3
  clear SZ TZ KZ GZ
  go_wp2_with fail
  clear o0
  generalize WZ.alloc (.cells #[.int .i64 3, .int .i64 1, .int .i64 2] 3) = WY at SY TY KY GY p0 p3 ⊢
  refine (dirof_any O.name _ (hvr.below SY.out.low (Nat.le_refl _))).mono ?_
  rintro e wd ⟨rfl, hwd⟩
  rw [hwd]
  clear hwd wd p3
  obtain ⟨r, hr, er⟩ := hf.room b hb
  have eE : exitL L b d = L.exit r d := by unfold exitL; rw [er]; rfl
  have eS : shutL L b d = L.shut r d := by unfold shutL; rw [er]; rfl
  have eR : (L.room b).toNat = r := by rw [er]; rfl
  have HER := hide er
  have HF := hide hf
  have hri : (r : Int) < 6 := by omega
  have hdi : (d : Int) < 6 := by omega
  rw [hdir]
  simp only
  have SA := SY
  have TSA := TY
  clear hdir p0 SY TY KY GY hf er
  by_cases h0 : L.exit r d = 0
  · have HE := hide (show doorE L b d (turnedC 12) = [tellE L b noThingS] by unfold doorE; rw [eE, if_pos h0])
    have HL := hide (show doorL L b d (turnedC 12) = L by unfold doorL; rw [eE, if_pos h0])
    have ET := hide h0
    have hw0 : IntKind.i64.wrap (-1) = -1 := by decide
    clear h0 eE eS eR
    go_wp2_with fail
    refine wp_region_held (S := fun W => Sn 52 [.int .i64 (b : Int)] w0 L Es W) (by kernel_rfl) ?_
    have HS := SA.out.drew
    have THS : Hid (Stp w0.heap.size 166 w WY.drew) := TSA.out.trans (SA.out.stp (below_drewN (Below.refl _ _) 1) 166)
    change wpAnyH _ _ _ _ _ _ _ _ WY.drew
    clear SA TSA
    generalize WY.drew = W0 at HS THS ⊢
    refine tw (i := 0) (d := some 47) (fuel := 12) (v := ?_) rfl rfl ?_ HS ?_
    rotate_left
    · intro W hW; go_simp; try with_reducible rfl
    simp only [Act.put, sT, List.set]
    refine tw (i := 1) (d := some 48) (fuel := 11) (v := ?_) rfl rfl ?_ HS ?_
    rotate_left
    · intro W hW; go_simp; try with_reducible rfl
    simp only [Act.put, sT, List.set]
    refine tw (i := 3) (d := some 50) (fuel := 10) (v := ?_) rfl rfl ?_ HS ?_
    rotate_left
    · intro W hW; go_simp; try with_reducible rfl
    simp only [Act.put, sT, List.set]
    refine tw (i := 4) (d := some 51) (fuel := 9) (v := ?_) rfl rfl ?_ HS ?_
    rotate_left
    · intro W hW; go_simp; try with_reducible rfl
    simp only [Act.put, sT, List.set]
    refine tw (i := 5) (d := some 52) (fuel := 8) (v := ?_) rfl rfl ?_ HS ?_
    rotate_left
    · intro W hW; go_simp; try with_reducible rfl
    simp only [Act.put, sT, List.set]
    refine tw (i := 6) (d := some 53) (fuel := 7) (v := ?_) rfl rfl ?_ HS ?_
    rotate_left
    · intro W hW; go_simp; try with_reducible rfl
    simp only [Act.put, sT, List.set]
    refine wpAnyH_all (fuel := 6) (rs := [2]) (by kernel_rfl) (by simp) ?_
    intro i hi
    obtain rfl : i = 2 := by simpa using hi
    clear hi
    refine call_at (d := some 49) rfl rfl (by rfl) 47 #[.pointer (some ⟨w0.heap.size, 0, none⟩)] (by kernel_rfl) ?_
    refine (there_any HS hb).mono ?_
    rintro e x1 ⟨rfl, n1, hx1⟩
    rw [HER.out]
    have S1 : Sn 52 [.int .i64 (b : Int)] w0 L Es x1 := by rw [hx1]; exact HS.drewN n1
    have TS1 : Hid (Stp w0.heap.size 166 w x1) := by rw [hx1]; exact THS.out.trans (HS.stp (below_drewN (Below.refl _ _) n1) 166)
    clear hx1
    refine ⟨_, rfl, S1, ?_⟩
    simp only [Act.put, sT, List.set]
    refine tw (i := 7) (d := some 54) (fuel := 5) (v := ?_) rfl rfl ?_ S1 ?_
    rotate_left
    · intro W hW; go_simp; try with_reducible rfl
    simp only [Act.put, sT, List.set]
    refine tw (i := 8) (d := some 55) (fuel := 4) (v := ?_) rfl rfl ?_ S1 ?_
    rotate_left
    · intro W hW; go_simp; try with_reducible rfl
    simp only [Act.put, sT, List.set]
    refine tw (i := 9) (d := some 56) (fuel := 3) (v := ?_) rfl rfl ?_ S1 ?_
    rotate_left
    · intro W hW; go_simp; try with_reducible rfl
    simp only [Act.put, sT, List.set]
    refine tw (i := 10) (d := some 57) (fuel := 2) (v := ?_) rfl rfl ?_ S1 ?_
    rotate_left
    · intro W hW
      have cE := hW.exitC r d hr hd
      rw [ET.out] at cE
      go_simp
      try with_reducible rfl
    simp only [Act.put, sT, List.set]
    refine tw (i := 11) (d := some 58) (fuel := 1) (v := ?_) rfl rfl ?_ S1 ?_
    rotate_left
    · intro W hW; go_simp; try with_reducible rfl
    simp only [Act.put, sT, List.set]
    refine tw (i := 12) (d := some 9) (fuel := 0) (v := ?_) rfl rfl ?_ S1 ?_
    rotate_left
    · intro W hW; go_simp; try with_reducible rfl
    simp only [Act.put, sT, List.set]
    refine wpAnyH_done (by kernel_rfl) ?_ _
    have SB := hide S1
    clear S1
    go_wp2_with fail
    refine (ttell_any SB.out hb _ (by omega)).mono ?_
    rintro e wt ⟨rfl, Sth, Tth⟩
    have St := hide Sth
    have Tt := hide (TS1.out.trans Tth)
    clear Sth Tth
    go_wp2
    exact bodyPost_ret (v := .tuple #[]) (results_none rfl _ _ _) rfl ⟨rfl, by rw [HL.out, HE.out]; exact St.out, Tt.out⟩
  · obtain ⟨t, ht, et⟩ : ∃ t : Nat, t < 6 ∧ L.exit r d = (t : Int) + 1 := by
      rcases HF.out.exit r d hr hd with h | h
      · exact absurd h h0
      · exact h
    have hti : (t : Int) < 6 := by omega
    have hw : wrap64 ((t : Int) + 1 - 1) = (t : Int) := by rw [show (t : Int) + 1 - 1 = (t : Int) by omega]; simp only [wrap64]; omega
    have hwt : IntKind.i64.wrap (t : Int) = (t : Int) := by rw [IntKind.wrap_i64]; first | omega | (unfold wrap64; omega)
    have hwr : IntKind.i64.wrap ((r : Int) + 1) = (r : Int) + 1 := by rw [IntKind.wrap_i64]; first | omega | (unfold wrap64; omega)
    have hwd : IntKind.i64.wrap ((d : Int) + 3) = (d : Int) + 3 := by rw [IntKind.wrap_i64]; first | omega | (unfold wrap64; omega)
    have ET := hide et
    cases h1 : L.shut r d with
    | false =>
      have HE := hide (show doorE L b d (turnedC 12) = [tellE L b isSoS] by unfold doorE; rw [eE, if_neg h0, eS, if_pos (by rw [h1]; simp [turnedC])])
      have HL := hide (show doorL L b d (turnedC 12) = L by unfold doorL; rw [eE, if_neg h0, eS, if_pos (by rw [h1]; simp [turnedC])])
      have HS1 := hide h1
      clear h0 h1 et eE eS eR
      go_wp2_with fail
      refine wp_region_held (S := fun W => Sn 52 [.int .i64 (b : Int)] w0 L Es W) (by kernel_rfl) ?_
      have HS := SA.out.drew
      have THS : Hid (Stp w0.heap.size 166 w WY.drew) := TSA.out.trans (SA.out.stp (below_drewN (Below.refl _ _) 1) 166)
      change wpAnyH _ _ _ _ _ _ _ _ WY.drew
      clear SA TSA
      generalize WY.drew = W0 at HS THS ⊢
      refine tw (i := 0) (d := some 47) (fuel := 12) (v := ?_) rfl rfl ?_ HS ?_
      rotate_left
      · intro W hW; go_simp; try with_reducible rfl
      simp only [Act.put, sT, List.set]
      refine tw (i := 1) (d := some 48) (fuel := 11) (v := ?_) rfl rfl ?_ HS ?_
      rotate_left
      · intro W hW; go_simp; try with_reducible rfl
      simp only [Act.put, sT, List.set]
      refine tw (i := 3) (d := some 50) (fuel := 10) (v := ?_) rfl rfl ?_ HS ?_
      rotate_left
      · intro W hW; go_simp; try with_reducible rfl
      simp only [Act.put, sT, List.set]
      refine tw (i := 4) (d := some 51) (fuel := 9) (v := ?_) rfl rfl ?_ HS ?_
      rotate_left
      · intro W hW; go_simp; try with_reducible rfl
      simp only [Act.put, sT, List.set]
      refine tw (i := 5) (d := some 52) (fuel := 8) (v := ?_) rfl rfl ?_ HS ?_
      rotate_left
      · intro W hW; go_simp; try with_reducible rfl
      simp only [Act.put, sT, List.set]
      refine tw (i := 6) (d := some 53) (fuel := 7) (v := ?_) rfl rfl ?_ HS ?_
      rotate_left
      · intro W hW; go_simp; try with_reducible rfl
      simp only [Act.put, sT, List.set]
      refine wpAnyH_all (fuel := 6) (rs := [2]) (by kernel_rfl) (by simp) ?_
      intro i hi
      obtain rfl : i = 2 := by simpa using hi
      clear hi
      refine call_at (d := some 49) rfl rfl (by rfl) 47 #[.pointer (some ⟨w0.heap.size, 0, none⟩)] (by kernel_rfl) ?_
      refine (there_any HS hb).mono ?_
      rintro e x1 ⟨rfl, n1, hx1⟩
      rw [HER.out]
      have S1 : Sn 52 [.int .i64 (b : Int)] w0 L Es x1 := by rw [hx1]; exact HS.drewN n1
      have TS1 : Hid (Stp w0.heap.size 166 w x1) := by rw [hx1]; exact THS.out.trans (HS.stp (below_drewN (Below.refl _ _) n1) 166)
      clear hx1
      refine ⟨_, rfl, S1, ?_⟩
      simp only [Act.put, sT, List.set]
      refine tw (i := 7) (d := some 54) (fuel := 5) (v := ?_) rfl rfl ?_ S1 ?_
      rotate_left
      · intro W hW; go_simp; try with_reducible rfl
      simp only [Act.put, sT, List.set]
      refine tw (i := 8) (d := some 55) (fuel := 4) (v := ?_) rfl rfl ?_ S1 ?_
      rotate_left
      · intro W hW; go_simp; try with_reducible rfl
      simp only [Act.put, sT, List.set]
      refine tw (i := 9) (d := some 56) (fuel := 3) (v := ?_) rfl rfl ?_ S1 ?_
      rotate_left
      · intro W hW; go_simp; try with_reducible rfl
      simp only [Act.put, sT, List.set]
      refine tw (i := 10) (d := some 57) (fuel := 2) (v := ?_) rfl rfl ?_ S1 ?_
      rotate_left
      · intro W hW
        have cE := hW.exitC r d hr hd
        rw [ET.out] at cE
        go_simp
        try with_reducible rfl
      simp only [Act.put, sT, List.set]
      refine tw (i := 11) (d := some 58) (fuel := 1) (v := ?_) rfl rfl ?_ S1 ?_
      rotate_left
      · intro W hW; go_simp; try with_reducible rfl
      simp only [Act.put, sT, List.set]
      refine tw (i := 12) (d := some 9) (fuel := 0) (v := ?_) rfl rfl ?_ S1 ?_
      rotate_left
      · intro W hW; go_simp; try with_reducible rfl
      simp only [Act.put, sT, List.set]
      refine wpAnyH_done (by kernel_rfl) ?_ _
      have SB := hide S1
      have TSB := TS1
      clear S1 TS1
      go_wp2_with fail
      refine wp_region_held (S := fun W => Sn 52 [.int .i64 (b : Int)] w0 L Es W) (by kernel_rfl) ?_
      have HS := SB.out.drew
      have THS : Hid (Stp w0.heap.size 166 w x1.drew) := TSB.out.trans (SB.out.stp (below_drewN (Below.refl _ _) 1) 166)
      change wpAnyH _ _ _ _ _ _ _ _ x1.drew
      clear SB TSB
      generalize x1.drew = W0 at HS THS ⊢
      refine tw (i := 0) (d := some 63) (fuel := 13) (v := ?_) rfl rfl ?_ HS ?_
      rotate_left
      · intro W hW; go_simp; try with_reducible rfl
      simp only [Act.put, sT, List.set]
      refine tw (i := 1) (d := some 64) (fuel := 12) (v := ?_) rfl rfl ?_ HS ?_
      rotate_left
      · intro W hW; go_simp; try with_reducible rfl
      simp only [Act.put, sT, List.set]
      refine tw (i := 3) (d := some 66) (fuel := 11) (v := ?_) rfl rfl ?_ HS ?_
      rotate_left
      · intro W hW; go_simp; try with_reducible rfl
      simp only [Act.put, sT, List.set]
      refine tw (i := 4) (d := some 67) (fuel := 10) (v := ?_) rfl rfl ?_ HS ?_
      rotate_left
      · intro W hW; go_simp; try with_reducible rfl
      simp only [Act.put, sT, List.set]
      refine tw (i := 5) (d := some 68) (fuel := 9) (v := ?_) rfl rfl ?_ HS ?_
      rotate_left
      · intro W hW; go_simp; try with_reducible rfl
      simp only [Act.put, sT, List.set]
      refine tw (i := 6) (d := some 69) (fuel := 8) (v := ?_) rfl rfl ?_ HS ?_
      rotate_left
      · intro W hW; go_simp; try with_reducible rfl
      simp only [Act.put, sT, List.set]
      refine tw (i := 11) (d := some 74) (fuel := 7) (v := ?_) rfl rfl ?_ HS ?_
      rotate_left
      · intro W hW; go_simp; try with_reducible rfl
      simp only [Act.put, sT, List.set]
      refine tw (i := 12) (d := some 75) (fuel := 6) (v := ?_) rfl rfl ?_ HS ?_
      rotate_left
      · intro W hW; go_simp; try with_reducible rfl
      simp only [Act.put, sT, List.set]
      refine wpAnyH_all (fuel := 5) (rs := [2]) (by kernel_rfl) (by simp) ?_
      intro i hi
      obtain rfl : i = 2 := by simpa using hi
      clear hi
      refine call_at (d := some 65) rfl rfl (by rfl) 47 #[.pointer (some ⟨w0.heap.size, 0, none⟩)] (by kernel_rfl) ?_
      refine (there_any HS hb).mono ?_
      rintro e x2 ⟨rfl, n2, hx2⟩
      rw [HER.out]
      have S2 : Sn 52 [.int .i64 (b : Int)] w0 L Es x2 := by rw [hx2]; exact HS.drewN n2
      have TS2 : Hid (Stp w0.heap.size 166 w x2) := by rw [hx2]; exact THS.out.trans (HS.stp (below_drewN (Below.refl _ _) n2) 166)
      clear hx2
      refine ⟨_, rfl, S2, ?_⟩
      simp only [Act.put, sT, List.set]
      refine tw (i := 7) (d := some 70) (fuel := 4) (v := ?_) rfl rfl ?_ S2 ?_
      rotate_left
      · intro W hW; go_simp; try with_reducible rfl
      simp only [Act.put, sT, List.set]
      refine tw (i := 8) (d := some 71) (fuel := 3) (v := ?_) rfl rfl ?_ S2 ?_
      rotate_left
      · intro W hW; go_simp; try with_reducible rfl
      simp only [Act.put, sT, List.set]
      refine tw (i := 9) (d := some 72) (fuel := 2) (v := ?_) rfl rfl ?_ S2 ?_
      rotate_left
      · intro W hW; go_simp; try with_reducible rfl
      simp only [Act.put, sT, List.set]
      refine tw (i := 10) (d := some 73) (fuel := 1) (v := ?_) rfl rfl ?_ S2 ?_
      rotate_left
      · intro W hW
        have cS := hW.shutC r d hr hd
        rw [HS1.out] at cS
        go_simp
        try with_reducible rfl
      simp only [Act.put, sT, List.set]
      refine tw (i := 13) (d := some 76) (fuel := 0) (v := ?_) rfl rfl ?_ S2 ?_
      rotate_left
      · intro W hW; go_simp; try with_reducible rfl
      simp only [Act.put, sT, List.set]
      refine wpAnyH_done (by kernel_rfl) ?_ _
      have SC := hide S2
      clear S2
      go_wp2_with fail
      refine (ttell_any SC.out hb _ (by omega)).mono ?_
      rintro e wt ⟨rfl, Sth, Tth⟩
      have St := hide Sth
      have Tt := hide (TS2.out.trans Tth)
      clear Sth Tth
      go_wp2
      exact bodyPost_ret (v := .tuple #[]) (results_none rfl _ _ _) rfl ⟨rfl, by rw [HL.out, HE.out]; exact St.out, Tt.out⟩
    | true =>
      have HL0 : doorL L b d (turnedC 12) = sideL L r d false := by unfold doorL; rw [eE, if_neg h0, eS, if_neg (by rw [h1]; simp [turnedC]), eR]; rfl
      have HL1 := hide HL0
      have HE := hide (show doorE L b d (turnedC 12) = [allE (sideL L r d false) (addE (sideL L r d false) b 8 (-1) 0 0 ⟨#[]⟩ doorT ⟨#[]⟩)] by unfold doorE; rw [eE, if_neg h0, eS, if_neg (by rw [h1]; simp [turnedC]), HL0]; rfl)
      have et2 : (L.exit r d - 1).toNat = t := by rw [et]; omega
      have HD := hide (show sideL L r d false = if L.exit t (oppN d) = (r : Int) + 1 then (L.setShut r d false).setShut t (oppN d) false else L.setShut r d false by unfold sideL; rw [et2])
      have hod := opp_lt hd
      have hodi : (oppN d : Int) < 6 := by omega
      have hoi : Int.tmod ((d : Int) + 3) 6 = (oppN d : Int) := by
        rcases (show d = 0 ∨ d = 1 ∨ d = 2 ∨ d = 3 ∨ d = 4 ∨ d = 5 by omega) with e | e | e | e | e | e <;> rw [e] <;> rfl
      have HS1 := hide h1
      clear h0 h1 et eE eS eR HL0 et2
      go_wp2_with fail
      refine wp_region_held (S := fun W => Sn 52 [.int .i64 (b : Int)] w0 L Es W) (by kernel_rfl) ?_
      have HS := SA.out.drew
      have THS : Hid (Stp w0.heap.size 166 w WY.drew) := TSA.out.trans (SA.out.stp (below_drewN (Below.refl _ _) 1) 166)
      change wpAnyH _ _ _ _ _ _ _ _ WY.drew
      clear SA TSA
      generalize WY.drew = W0 at HS THS ⊢
      refine tw (i := 0) (d := some 47) (fuel := 12) (v := ?_) rfl rfl ?_ HS ?_
      rotate_left
      · intro W hW; go_simp; try with_reducible rfl
      simp only [Act.put, sT, List.set]
      refine tw (i := 1) (d := some 48) (fuel := 11) (v := ?_) rfl rfl ?_ HS ?_
      rotate_left
      · intro W hW; go_simp; try with_reducible rfl
      simp only [Act.put, sT, List.set]
      refine tw (i := 3) (d := some 50) (fuel := 10) (v := ?_) rfl rfl ?_ HS ?_
      rotate_left
      · intro W hW; go_simp; try with_reducible rfl
      simp only [Act.put, sT, List.set]
      refine tw (i := 4) (d := some 51) (fuel := 9) (v := ?_) rfl rfl ?_ HS ?_
      rotate_left
      · intro W hW; go_simp; try with_reducible rfl
      simp only [Act.put, sT, List.set]
      refine tw (i := 5) (d := some 52) (fuel := 8) (v := ?_) rfl rfl ?_ HS ?_
      rotate_left
      · intro W hW; go_simp; try with_reducible rfl
      simp only [Act.put, sT, List.set]
      refine tw (i := 6) (d := some 53) (fuel := 7) (v := ?_) rfl rfl ?_ HS ?_
      rotate_left
      · intro W hW; go_simp; try with_reducible rfl
      simp only [Act.put, sT, List.set]
      refine wpAnyH_all (fuel := 6) (rs := [2]) (by kernel_rfl) (by simp) ?_
      intro i hi
      obtain rfl : i = 2 := by simpa using hi
      clear hi
      refine call_at (d := some 49) rfl rfl (by rfl) 47 #[.pointer (some ⟨w0.heap.size, 0, none⟩)] (by kernel_rfl) ?_
      refine (there_any HS hb).mono ?_
      rintro e x1 ⟨rfl, n1, hx1⟩
      rw [HER.out]
      have S1 : Sn 52 [.int .i64 (b : Int)] w0 L Es x1 := by rw [hx1]; exact HS.drewN n1
      have TS1 : Hid (Stp w0.heap.size 166 w x1) := by rw [hx1]; exact THS.out.trans (HS.stp (below_drewN (Below.refl _ _) n1) 166)
      clear hx1
      refine ⟨_, rfl, S1, ?_⟩
      simp only [Act.put, sT, List.set]
      refine tw (i := 7) (d := some 54) (fuel := 5) (v := ?_) rfl rfl ?_ S1 ?_
      rotate_left
      · intro W hW; go_simp; try with_reducible rfl
      simp only [Act.put, sT, List.set]
      refine tw (i := 8) (d := some 55) (fuel := 4) (v := ?_) rfl rfl ?_ S1 ?_
      rotate_left
      · intro W hW; go_simp; try with_reducible rfl
      simp only [Act.put, sT, List.set]
      refine tw (i := 9) (d := some 56) (fuel := 3) (v := ?_) rfl rfl ?_ S1 ?_
      rotate_left
      · intro W hW; go_simp; try with_reducible rfl
      simp only [Act.put, sT, List.set]
      refine tw (i := 10) (d := some 57) (fuel := 2) (v := ?_) rfl rfl ?_ S1 ?_
      rotate_left
      · intro W hW
        have cE := hW.exitC r d hr hd
        rw [ET.out] at cE
        go_simp
        try with_reducible rfl
      simp only [Act.put, sT, List.set]
      refine tw (i := 11) (d := some 58) (fuel := 1) (v := ?_) rfl rfl ?_ S1 ?_
      rotate_left
      · intro W hW; go_simp; try with_reducible rfl
      simp only [Act.put, sT, List.set]
      refine tw (i := 12) (d := some 9) (fuel := 0) (v := ?_) rfl rfl ?_ S1 ?_
      rotate_left
      · intro W hW; go_simp; try with_reducible rfl
      simp only [Act.put, sT, List.set]
      refine wpAnyH_done (by kernel_rfl) ?_ _
      have SB := hide S1
      have TSB := TS1
      clear S1 TS1
      go_wp2_with fail
      refine wp_region_held (S := fun W => Sn 52 [.int .i64 (b : Int)] w0 L Es W) (by kernel_rfl) ?_
      have HS := SB.out.drew
      have THS : Hid (Stp w0.heap.size 166 w x1.drew) := TSB.out.trans (SB.out.stp (below_drewN (Below.refl _ _) 1) 166)
      change wpAnyH _ _ _ _ _ _ _ _ x1.drew
      clear SB TSB
      generalize x1.drew = W0 at HS THS ⊢
      refine tw (i := 0) (d := some 63) (fuel := 13) (v := ?_) rfl rfl ?_ HS ?_
      rotate_left
      · intro W hW; go_simp; try with_reducible rfl
      simp only [Act.put, sT, List.set]
      refine tw (i := 1) (d := some 64) (fuel := 12) (v := ?_) rfl rfl ?_ HS ?_
      rotate_left
      · intro W hW; go_simp; try with_reducible rfl
      simp only [Act.put, sT, List.set]
      refine tw (i := 3) (d := some 66) (fuel := 11) (v := ?_) rfl rfl ?_ HS ?_
      rotate_left
      · intro W hW; go_simp; try with_reducible rfl
      simp only [Act.put, sT, List.set]
      refine tw (i := 4) (d := some 67) (fuel := 10) (v := ?_) rfl rfl ?_ HS ?_
      rotate_left
      · intro W hW; go_simp; try with_reducible rfl
      simp only [Act.put, sT, List.set]
      refine tw (i := 5) (d := some 68) (fuel := 9) (v := ?_) rfl rfl ?_ HS ?_
      rotate_left
      · intro W hW; go_simp; try with_reducible rfl
      simp only [Act.put, sT, List.set]
      refine tw (i := 6) (d := some 69) (fuel := 8) (v := ?_) rfl rfl ?_ HS ?_
      rotate_left
      · intro W hW; go_simp; try with_reducible rfl
      simp only [Act.put, sT, List.set]
      refine tw (i := 11) (d := some 74) (fuel := 7) (v := ?_) rfl rfl ?_ HS ?_
      rotate_left
      · intro W hW; go_simp; try with_reducible rfl
      simp only [Act.put, sT, List.set]
      refine tw (i := 12) (d := some 75) (fuel := 6) (v := ?_) rfl rfl ?_ HS ?_
      rotate_left
      · intro W hW; go_simp; try with_reducible rfl
      simp only [Act.put, sT, List.set]
      refine wpAnyH_all (fuel := 5) (rs := [2]) (by kernel_rfl) (by simp) ?_
      intro i hi
      obtain rfl : i = 2 := by simpa using hi
      clear hi
      refine call_at (d := some 65) rfl rfl (by rfl) 47 #[.pointer (some ⟨w0.heap.size, 0, none⟩)] (by kernel_rfl) ?_
      refine (there_any HS hb).mono ?_
      rintro e x2 ⟨rfl, n2, hx2⟩
      rw [HER.out]
      have S2 : Sn 52 [.int .i64 (b : Int)] w0 L Es x2 := by rw [hx2]; exact HS.drewN n2
      have TS2 : Hid (Stp w0.heap.size 166 w x2) := by rw [hx2]; exact THS.out.trans (HS.stp (below_drewN (Below.refl _ _) n2) 166)
      clear hx2
      refine ⟨_, rfl, S2, ?_⟩
      simp only [Act.put, sT, List.set]
      refine tw (i := 7) (d := some 70) (fuel := 4) (v := ?_) rfl rfl ?_ S2 ?_
      rotate_left
      · intro W hW; go_simp; try with_reducible rfl
      simp only [Act.put, sT, List.set]
      refine tw (i := 8) (d := some 71) (fuel := 3) (v := ?_) rfl rfl ?_ S2 ?_
      rotate_left
      · intro W hW; go_simp; try with_reducible rfl
      simp only [Act.put, sT, List.set]
      refine tw (i := 9) (d := some 72) (fuel := 2) (v := ?_) rfl rfl ?_ S2 ?_
      rotate_left
      · intro W hW; go_simp; try with_reducible rfl
      simp only [Act.put, sT, List.set]
      refine tw (i := 10) (d := some 73) (fuel := 1) (v := ?_) rfl rfl ?_ S2 ?_
      rotate_left
      · intro W hW
        have cS := hW.shutC r d hr hd
        rw [HS1.out] at cS
        go_simp
        try with_reducible rfl
      simp only [Act.put, sT, List.set]
      refine tw (i := 13) (d := some 76) (fuel := 0) (v := ?_) rfl rfl ?_ S2 ?_
      rotate_left
      · intro W hW; go_simp; try with_reducible rfl
      simp only [Act.put, sT, List.set]
      refine wpAnyH_done (by kernel_rfl) ?_ _
      have SC := hide S2
      have TSC := TS2
      clear S2 TS2
      go_wp2_with fail
      refine wp_region_held (S := fun _ => True) (by kernel_rfl) ?_
      have HS : True := trivial
      have SD := hide SC.out.drew
      have TSD : Hid (Stp w0.heap.size 166 w x2.drew) := TSC.out.trans (SC.out.stp (below_drewN (Below.refl _ _) 1) 166)
      change wpAnyH _ _ _ _ _ _ _ _ x2.drew
      clear SC TSC
      generalize x2.drew = WD at SD TSD ⊢
      refine tw (i := 0) (d := some 79) (fuel := 12) (v := ?_) rfl rfl ?_ HS ?_
      rotate_left
      · intro W hW; go_simp; try with_reducible rfl
      simp only [Act.put, sT, List.set]
      refine tw (i := 1) (d := some 80) (fuel := 11) (v := ?_) rfl rfl ?_ HS ?_
      rotate_left
      · intro W hW; go_simp; try with_reducible rfl
      simp only [Act.put, sT, List.set]
      refine tw (i := 3) (d := some 82) (fuel := 10) (v := ?_) rfl rfl ?_ HS ?_
      rotate_left
      · intro W hW; go_simp; try with_reducible rfl
      simp only [Act.put, sT, List.set]
      refine tw (i := 4) (d := some 83) (fuel := 9) (v := ?_) rfl rfl ?_ HS ?_
      rotate_left
      · intro W hW; go_simp; try with_reducible rfl
      simp only [Act.put, sT, List.set]
      refine tw (i := 5) (d := some 84) (fuel := 8) (v := ?_) rfl rfl ?_ HS ?_
      rotate_left
      · intro W hW; go_simp; try with_reducible rfl
      simp only [Act.put, sT, List.set]
      refine tw (i := 6) (d := some 85) (fuel := 7) (v := ?_) rfl rfl ?_ HS ?_
      rotate_left
      · intro W hW; go_simp; try with_reducible rfl
      simp only [Act.put, sT, List.set]
      refine tw (i := 7) (d := some 86) (fuel := 6) (v := ?_) rfl rfl ?_ HS ?_
      rotate_left
      · intro W hW; go_simp; try with_reducible rfl
      simp only [Act.put, sT, List.set]
      refine tw (i := 8) (d := some 87) (fuel := 5) (v := ?_) rfl rfl ?_ HS ?_
      rotate_left
      · intro W hW; go_simp; try with_reducible rfl
      simp only [Act.put, sT, List.set]
      refine wpAnyH_all (fuel := 4) (rs := [2]) (by kernel_rfl) (by simp) ?_
      intro i hi
      obtain rfl : i = 2 := by simpa using hi
      clear hi
      refine call_at (d := some 81) rfl rfl (by rfl) 47 #[.pointer (some ⟨w0.heap.size, 0, none⟩)] (by kernel_rfl) ?_
      refine (there_any SD.out hb).mono ?_
      rintro e x3 ⟨rfl, n3, hx3⟩
      rw [HER.out]
      have SX := hide (show Sn 52 [.int .i64 (b : Int)] w0 L Es x3 by rw [hx3]; exact SD.out.drewN n3)
      have TX := hide (show Stp w0.heap.size 166 w x3 by rw [hx3]; exact TSD.out.trans (SD.out.stp (below_drewN (Below.refl _ _) n3) 166))
      clear hx3 SD TSD
      refine ⟨_, rfl, trivial, ?_⟩
      simp only [Act.put, sT, List.set]
      refine tw (i := 9) (d := some 88) (fuel := 3) (v := ?_) rfl rfl ?_ HS ?_
      rotate_left
      · intro W hW; go_simp; try with_reducible rfl
      simp only [Act.put, sT, List.set]
      refine tw (i := 10) (d := some 89) (fuel := 2) (v := ?_) rfl rfl ?_ HS ?_
      rotate_left
      · intro W hW; go_simp; try with_reducible rfl
      simp only [Act.put, sT, List.set]
      refine tw (i := 11) (d := some 90) (fuel := 1) (v := ?_) rfl rfl ?_ HS ?_
      rotate_left
      · intro W hW; go_simp; try with_reducible rfl
      simp only [Act.put, sT, List.set]
      have cS := SX.out.shutC r d hr hd
      have fS := SX.out.soft (r * 14 + 8 + d)
      refine wpAnyH_all (fuel := 0) (rs := [12]) (by kernel_rfl) (by simp) ?_
      intro i hi
      obtain rfl : i = 12 := by simpa using hi
      clear hi
      refine skip_at (d := none) (w' := x3.setCell ⟨w0.heap.size, r * 14 + 8 + d, none⟩ (.bool false)) rfl rfl (by rfl) (by go_simp) ?_
      have SE : Hid (Sn 52 [.int .i64 (b : Int)] w0 (L.setShut r d false) Es (x3.setCell ⟨w0.heap.size, r * 14 + 8 + d, none⟩ (.bool false))) := SX.out.set (by omega) (by rw [show r * 14 + 8 + d = r * 14 + (8 + d) by omega]; exact L.up_shut r d hr hd false)
      have TSE : Hid (Stp w0.heap.size 166 w (x3.setCell ⟨w0.heap.size, r * 14 + 8 + d, none⟩ (.bool false))) := TX.out.trans (Stp.put (by omega))
      refine ⟨trivial, ?_⟩
      simp only [Act.put]
      refine wpAnyH_done (by kernel_rfl) ?_ _
      generalize x3.setCell ⟨w0.heap.size, r * 14 + 8 + d, none⟩ (.bool false) = x4 at SE TSE ⊢
      clear cS fS SX TX HS
      have HL1e : ∀ x y, (L.setShut r d false).exit x y = L.exit x y := fun _ _ => rfl
      have HER1 := hide (show (L.setShut r d false).room b = (r : Int) from HER.out)
      have HTE := hide (HL1e t (oppN d))
      clear HL1e
      generalize hL1 : L.setShut r d false = L1 at *
      have HX1 := hide hL1
      clear hL1
      cases hq : (L.exit t (oppN d) == (r : Int) + 1) with
      | false =>
        have HD2 := hide (show sideL L r d false = L1 by rw [HD.out, if_neg (by simpa using hq)])
        go_wp2_with fail
        refine wp_region_held (S := fun W => Sn 52 [.int .i64 (b : Int)] w0 L1 Es W) (by kernel_rfl) ?_
        have HS := SE.out.drew
        have THS : Hid (Stp w0.heap.size 166 w x4.drew) := TSE.out.trans (SE.out.stp (below_drewN (Below.refl _ _) 1) 166)
        change wpAnyH _ _ _ _ _ _ _ _ x4.drew
        clear SE TSE
        generalize x4.drew = W5 at HS THS ⊢
        refine tw (i := 0) (d := some 91) (fuel := 15) (v := ?_) rfl rfl ?_ HS ?_
        rotate_left
        · intro W hW; go_simp; try with_reducible rfl
        simp only [Act.put, sT, List.set]
        refine tw (i := 1) (d := some 92) (fuel := 14) (v := ?_) rfl rfl ?_ HS ?_
        rotate_left
        · intro W hW; go_simp; try with_reducible rfl
        simp only [Act.put, sT, List.set]
        refine tw (i := 2) (d := some 93) (fuel := 13) (v := ?_) rfl rfl ?_ HS ?_
        rotate_left
        · intro W hW; go_simp; try with_reducible rfl
        simp only [Act.put, sT, List.set]
        refine tw (i := 3) (d := some 94) (fuel := 12) (v := ?_) rfl rfl ?_ HS ?_
        rotate_left
        · intro W hW; go_simp; try with_reducible rfl
        simp only [Act.put, sT, List.set]
        refine tw (i := 4) (d := some 95) (fuel := 11) (v := ?_) rfl rfl ?_ HS ?_
        rotate_left
        · intro W hW; go_simp; try with_reducible rfl
        simp only [Act.put, sT, List.set]
        refine tw (i := 5) (d := some 96) (fuel := 10) (v := ?_) rfl rfl ?_ HS ?_
        rotate_left
        · intro W hW; go_simp; try with_reducible rfl
        simp only [Act.put, sT, List.set]
        refine tw (i := 6) (d := some 97) (fuel := 9) (v := ?_) rfl rfl ?_ HS ?_
        rotate_left
        · intro W hW; go_simp; try with_reducible rfl
        simp only [Act.put, sT, List.set]
        refine tw (i := 7) (d := some 98) (fuel := 8) (v := ?_) rfl rfl ?_ HS ?_
        rotate_left
        · intro W hW; go_simp; try with_reducible rfl
        simp only [Act.put, sT, List.set]
        refine tw (i := 8) (d := some 99) (fuel := 7) (v := ?_) rfl rfl ?_ HS ?_
        rotate_left
        · intro W hW; go_simp; try with_reducible rfl
        simp only [Act.put, sT, List.set]
        refine tw (i := 9) (d := some 100) (fuel := 6) (v := ?_) rfl rfl ?_ HS ?_
        rotate_left
        · intro W hW; go_simp; try with_reducible rfl
        simp only [Act.put, sT, List.set]
        refine tw (i := 10) (d := some 101) (fuel := 5) (v := ?_) rfl rfl ?_ HS ?_
        rotate_left
        · intro W hW; go_simp; try with_reducible rfl
        simp only [Act.put, sT, List.set]
        refine tw (i := 11) (d := some 102) (fuel := 4) (v := ?_) rfl rfl ?_ HS ?_
        rotate_left
        · intro W hW
          have cE := hW.exitC t (oppN d) ht hod
          rw [HTE.out] at cE
          go_simp
          try with_reducible rfl
        simp only [Act.put, sT, List.set]
        refine tw (i := 12) (d := some 103) (fuel := 3) (v := ?_) rfl rfl ?_ HS ?_
        rotate_left
        · intro W hW; go_simp; try with_reducible rfl
        simp only [Act.put, sT, List.set]
        refine wpAnyH_all (fuel := 2) (rs := [13]) (by kernel_rfl) (by simp) ?_
        intro i hi
        obtain rfl : i = 13 := by simpa using hi
        clear hi
        refine call_at (d := some 104) rfl rfl (by rfl) 47 #[.pointer (some ⟨w0.heap.size, 0, none⟩)] (by kernel_rfl) ?_
        refine (there_any HS hb).mono ?_
        rintro e x5 ⟨rfl, n5, hx5⟩
        rw [HER1.out]
        have S6 : Sn 52 [.int .i64 (b : Int)] w0 L1 Es x5 := by rw [hx5]; exact HS.drewN n5
        have TS6 : Hid (Stp w0.heap.size 166 w x5) := by rw [hx5]; exact THS.out.trans (HS.stp (below_drewN (Below.refl _ _) n5) 166)
        clear hx5
        refine ⟨_, rfl, S6, ?_⟩
        simp only [Act.put, sT, List.set]
        refine tw (i := 14) (d := some 105) (fuel := 1) (v := ?_) rfl rfl ?_ S6 ?_
        rotate_left
        · intro W hW; go_simp; try with_reducible rfl
        simp only [Act.put, sT, List.set]
        refine tw (i := 15) (d := some 106) (fuel := 0) (v := ?_) rfl rfl ?_ S6 ?_
        rotate_left
        · intro W hW; go_simp; try with_reducible rfl
        simp only [Act.put, sT, List.set]
        refine wpAnyH_done (by kernel_rfl) ?_ _
        have SF := hide S6
        clear S6
        go_wp2_with fail
        refine (tadd_none SF.out hb 8 0 0 doorT ⟨#[]⟩ (by omega)).mono ?_
        rintro e x9 ⟨rfl, S9h, T9h⟩
        have S9 := hide S9h
        have T9 := hide (TS6.out.trans T9h)
        clear S9h T9h
        go_wp2
        exact bodyPost_ret (v := .tuple #[]) (results_none rfl _ _ _) rfl ⟨rfl, by rw [HL1.out, HE.out, HD2.out]; exact S9.out, T9.out⟩
      | true =>
        have HD2 := hide (show sideL L r d false = L1.setShut t (oppN d) false by rw [HD.out, if_pos (by simpa using hq)])
        go_wp2_with fail
        refine wp_region_held (S := fun W => Sn 52 [.int .i64 (b : Int)] w0 L1 Es W) (by kernel_rfl) ?_
        have HS := SE.out.drew
        have THS : Hid (Stp w0.heap.size 166 w x4.drew) := TSE.out.trans (SE.out.stp (below_drewN (Below.refl _ _) 1) 166)
        change wpAnyH _ _ _ _ _ _ _ _ x4.drew
        clear SE TSE
        generalize x4.drew = W5 at HS THS ⊢
        refine tw (i := 0) (d := some 91) (fuel := 15) (v := ?_) rfl rfl ?_ HS ?_
        rotate_left
        · intro W hW; go_simp; try with_reducible rfl
        simp only [Act.put, sT, List.set]
        refine tw (i := 1) (d := some 92) (fuel := 14) (v := ?_) rfl rfl ?_ HS ?_
        rotate_left
        · intro W hW; go_simp; try with_reducible rfl
        simp only [Act.put, sT, List.set]
        refine tw (i := 2) (d := some 93) (fuel := 13) (v := ?_) rfl rfl ?_ HS ?_
        rotate_left
        · intro W hW; go_simp; try with_reducible rfl
        simp only [Act.put, sT, List.set]
        refine tw (i := 3) (d := some 94) (fuel := 12) (v := ?_) rfl rfl ?_ HS ?_
        rotate_left
        · intro W hW; go_simp; try with_reducible rfl
        simp only [Act.put, sT, List.set]
        refine tw (i := 4) (d := some 95) (fuel := 11) (v := ?_) rfl rfl ?_ HS ?_
        rotate_left
        · intro W hW; go_simp; try with_reducible rfl
        simp only [Act.put, sT, List.set]
        refine tw (i := 5) (d := some 96) (fuel := 10) (v := ?_) rfl rfl ?_ HS ?_
        rotate_left
        · intro W hW; go_simp; try with_reducible rfl
        simp only [Act.put, sT, List.set]
        refine tw (i := 6) (d := some 97) (fuel := 9) (v := ?_) rfl rfl ?_ HS ?_
        rotate_left
        · intro W hW; go_simp; try with_reducible rfl
        simp only [Act.put, sT, List.set]
        refine tw (i := 7) (d := some 98) (fuel := 8) (v := ?_) rfl rfl ?_ HS ?_
        rotate_left
        · intro W hW; go_simp; try with_reducible rfl
        simp only [Act.put, sT, List.set]
        refine tw (i := 8) (d := some 99) (fuel := 7) (v := ?_) rfl rfl ?_ HS ?_
        rotate_left
        · intro W hW; go_simp; try with_reducible rfl
        simp only [Act.put, sT, List.set]
        refine tw (i := 9) (d := some 100) (fuel := 6) (v := ?_) rfl rfl ?_ HS ?_
        rotate_left
        · intro W hW; go_simp; try with_reducible rfl
        simp only [Act.put, sT, List.set]
        refine tw (i := 10) (d := some 101) (fuel := 5) (v := ?_) rfl rfl ?_ HS ?_
        rotate_left
        · intro W hW; go_simp; try with_reducible rfl
        simp only [Act.put, sT, List.set]
        refine tw (i := 11) (d := some 102) (fuel := 4) (v := ?_) rfl rfl ?_ HS ?_
        rotate_left
        · intro W hW
          have cE := hW.exitC t (oppN d) ht hod
          rw [HTE.out] at cE
          go_simp
          try with_reducible rfl
        simp only [Act.put, sT, List.set]
        refine tw (i := 12) (d := some 103) (fuel := 3) (v := ?_) rfl rfl ?_ HS ?_
        rotate_left
        · intro W hW; go_simp; try with_reducible rfl
        simp only [Act.put, sT, List.set]
        refine wpAnyH_all (fuel := 2) (rs := [13]) (by kernel_rfl) (by simp) ?_
        intro i hi
        obtain rfl : i = 13 := by simpa using hi
        clear hi
        refine call_at (d := some 104) rfl rfl (by rfl) 47 #[.pointer (some ⟨w0.heap.size, 0, none⟩)] (by kernel_rfl) ?_
        refine (there_any HS hb).mono ?_
        rintro e x5 ⟨rfl, n5, hx5⟩
        rw [HER1.out]
        have S6 : Sn 52 [.int .i64 (b : Int)] w0 L1 Es x5 := by rw [hx5]; exact HS.drewN n5
        have TS6 : Hid (Stp w0.heap.size 166 w x5) := by rw [hx5]; exact THS.out.trans (HS.stp (below_drewN (Below.refl _ _) n5) 166)
        clear hx5
        refine ⟨_, rfl, S6, ?_⟩
        simp only [Act.put, sT, List.set]
        refine tw (i := 14) (d := some 105) (fuel := 1) (v := ?_) rfl rfl ?_ S6 ?_
        rotate_left
        · intro W hW; go_simp; try with_reducible rfl
        simp only [Act.put, sT, List.set]
        refine tw (i := 15) (d := some 106) (fuel := 0) (v := ?_) rfl rfl ?_ S6 ?_
        rotate_left
        · intro W hW; go_simp; try with_reducible rfl
        simp only [Act.put, sT, List.set]
        refine wpAnyH_done (by kernel_rfl) ?_ _
        have SF := hide S6
        have cT := S6.shutC t (oppN d) ht hod
        have fT := S6.soft (t * 14 + 8 + oppN d)
        have SG : Hid (Sn 52 [.int .i64 (b : Int)] w0 (L1.setShut t (oppN d) false) Es (x5.setCell ⟨w0.heap.size, t * 14 + 8 + oppN d, none⟩ (.bool false))) := S6.set (by omega) (by rw [show t * 14 + 8 + oppN d = t * 14 + (8 + oppN d) by omega]; exact L1.up_shut t (oppN d) ht hod false)
        have TSG : Hid (Stp w0.heap.size 166 w (x5.setCell ⟨w0.heap.size, t * 14 + 8 + oppN d, none⟩ (.bool false))) := TS6.out.trans (Stp.put (by omega))
        clear S6 TS6
        go_wp2_with fail
        refine (tadd_none SG.out hb 8 0 0 doorT ⟨#[]⟩ (by omega)).mono ?_
        rintro e x9 ⟨rfl, S9h, T9h⟩
        have S9 := hide S9h
        have T9 := hide (TSG.out.trans T9h)
        clear S9h T9h
        go_wp2
        exact bodyPost_ret (v := .tuple #[]) (results_none rfl _ _ _) rfl ⟨rfl, by rw [HL1.out, HE.out, HD2.out]; exact S9.out, T9.out⟩
end Go.Proofs.YtaifjndkgfffpaaGreatDoor
