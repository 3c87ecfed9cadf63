/-
  The document's own turn: things are parted with (give): the contract. Written by a program.
-/
import Derived.Test.YtaifjndkgfffpaaGreatDoorMgT
namespace Go.Proofs.YtaifjndkgfffpaaGreatDoor
open Go.RowKit
set_option linter.unusedVariables false

set_option maxRecDepth 100000 in
set_option maxHeartbeats 8000000 in
theorem tpart_give {w0 : World} {L : Ld} {Es : List Ev} {w : World} {b : Nat} (hS : Sn 52 [.int .i64 (b : Int)] w0 L Es w) (hb : b < 6) (O : Od) (hvb : O.verb = 10) (hs : O.second.size ≤ 8796093022207) (hn0 : -9223372036854775808 ≤ O.nth) (hn1 : O.nth ≤ 9223372036854775807) (hlen : Es.length ≤ 900000) :
    Calls Tryz.prog 15 #[.pointer (some ⟨w0.heap.size, 0, none⟩), .agg O.cells] w fun e w' => e = .returned (.tuple #[]) ∧ Sn 52 [.int .i64 (b : Int)] w0 (giveL L b O) (Es ++ giveE L b O) w' ∧ Stp w0.heap.size 166 w w' := by
  have hbi : (b : Int) < 6 := by omega
  have HVB := hide hvb
  have SZ := hide (hS.alloc (.cells O.cells 36))
  have TZ := hide (Stp.below (o := 166) (below_box w (.cells O.cells 36)) hS.lt)
  have GZ := hide (heap_alloc_new w (.cells O.cells 36))
  have KZ := hide (hS.kept (below_box w (.cells O.cells 36)) (Nat.le_refl _) (by simp))
  have o0 := cell_of_row _ w.heap.size 0 _ _ _ GZ.out
  rw [show O.cells[0]? = some (.int .i64 10) by rw [← HVB.out]; rfl] at o0
  have o4 := cell_of_row _ w.heap.size 4 _ _ _ GZ.out
  rw [show O.cells[4]? = some (.string O.second) from rfl] at o4
  clear hS hvb
  go_enter Tryz.func15, Tryz.ntmps15
  go_wp2_with fail
  generalize w.alloc (.cells O.cells 36) = WZ at SZ TZ GZ KZ o0 o4 ⊢
  refine (personof_any SZ.out hb O.second hs (by omega)).mono ?_
  rintro e w1b h
  rcases h with ⟨tx, hbx, rfl, S1h, T1h⟩ | ⟨hbx, rfl, S1h, T1h⟩
  rotate_left
  · have HL := hide (show giveL L b O = L by unfold giveL; rw [hbx])
    have HE := hide (show giveE L b O = [tellE L b nobodyS] by unfold giveE; rw [hbx])
    have S1b := hide S1h
    have T1b := hide (TZ.out.trans T1h)
    have o0' : w1b.cell? ⟨w.heap.size, 0, none⟩ = some (.int .i64 10) := by
      rw [cell_of_row _ _ _ _ _ _ ((T1h.kept KZ.out).2.trans GZ.out), ← HVB.out]; rfl
    clear S1h T1h hbx SZ TZ GZ KZ o0 o4
    go_wp2
    exact bodyPost_ret (v := .tuple #[]) (results_none rfl _ _ _) rfl ⟨rfl, by rw [HL.out, HE.out]; exact S1b.out, T1b.out⟩
  have HPL := hide (show giveL L b O = partL L b O 1 (tx : Int) (evW L 6 b tx) by unfold giveL; rw [hbx])
  have HPE := hide (show giveE L b O = partE L b O 1 (tx : Int) (evW L 6 b tx) by unfold giveE; rw [hbx])
  have hto : tx < 6 := (who_sees hbx).1
  have htoi : (tx : Int) < 6 := by omega
  have o0' : w1b.cell? ⟨w.heap.size, 0, none⟩ = some (.int .i64 10) := by
    rw [cell_of_row _ _ _ _ _ _ ((T1h.kept KZ.out).2.trans GZ.out), ← HVB.out]; rfl
  have S1b := hide S1h
  have T1b := hide (TZ.out.trans T1h)
  have K1b := hide (T1h.kept KZ.out).1
  have G1b := hide ((T1h.kept KZ.out).2.trans GZ.out)
  clear S1h T1h hbx SZ TZ GZ KZ o0 o4
  have SZ := S1b
  have TZ := T1b
  have KZ := K1b
  have GZ := G1b
  clear S1b T1b K1b G1b
  go_wp2_with fail
  clear o0'
  refine wp_region_held (S := fun W => W.heap[w.heap.size]? = some (.cells O.cells 36 (0, 0))) (by kernel_rfl) ?_
  have HS : w1b.drew.heap[w.heap.size]? = some (.cells O.cells 36 (0, 0)) := GZ.out
  have S0 := hide SZ.out.drew
  have P0 : Hid (Stp w0.heap.size 166 w w1b.drew) := (TZ.out.trans (SZ.out.stp (below_drewN (Below.refl _ _) 1) 166))
  have K0 : Hid (Kept w0.heap.size 166 w1b.drew w.heap.size) := (((SZ.out.stp (below_drewN (Below.refl _ _) 1) 166).kept KZ.out).1)
  change wpAnyH _ _ _ _ _ _ _ _ w1b.drew
  clear GZ SZ TZ KZ
  generalize w1b.drew = W0 at HS S0 P0 K0 ⊢
  refine tw (i := 0) (d := some 25) (fuel := 10) (v := ?_) rfl rfl ?_ HS ?_
  rotate_left
  · intro W hW; go_simp; try with_reducible rfl
  simp only [Act.put, sT, List.set]
  refine tw (i := 1) (d := some 26) (fuel := 9) (v := ?_) rfl rfl ?_ HS ?_
  rotate_left
  · intro W hW; go_simp; try with_reducible rfl
  simp only [Act.put, sT, List.set]
  refine tw (i := 3) (d := some 28) (fuel := 8) (v := ?_) rfl rfl ?_ HS ?_
  rotate_left
  · intro W hW; go_simp; try with_reducible rfl
  simp only [Act.put, sT, List.set]
  refine tw (i := 4) (d := some 29) (fuel := 7) (v := ?_) rfl rfl ?_ HS ?_
  rotate_left
  · intro W hW
    have o1 := cell_of_row W _ 1 _ _ _ hW
    have o2 := cell_of_row W _ 2 _ _ _ hW
    have o3 := cell_of_row W _ 3 _ _ _ hW
    simp only [Od.cells] at o1 o2 o3
    simp at o1 o2 o3
    go_simp
    try with_reducible rfl
  simp only [Act.put, sT, List.set]
  refine tw (i := 5) (d := some 30) (fuel := 6) (v := ?_) rfl rfl ?_ HS ?_
  rotate_left
  · intro W hW; go_simp; try with_reducible rfl
  simp only [Act.put, sT, List.set]
  refine tw (i := 6) (d := some 31) (fuel := 5) (v := ?_) rfl rfl ?_ HS ?_
  rotate_left
  · intro W hW
    have o1 := cell_of_row W _ 1 _ _ _ hW
    have o2 := cell_of_row W _ 2 _ _ _ hW
    have o3 := cell_of_row W _ 3 _ _ _ hW
    simp only [Od.cells] at o1 o2 o3
    simp at o1 o2 o3
    go_simp
    try with_reducible rfl
  simp only [Act.put, sT, List.set]
  refine tw (i := 7) (d := some 32) (fuel := 4) (v := ?_) rfl rfl ?_ HS ?_
  rotate_left
  · intro W hW; go_simp; try with_reducible rfl
  simp only [Act.put, sT, List.set]
  refine tw (i := 8) (d := some 33) (fuel := 3) (v := ?_) rfl rfl ?_ HS ?_
  rotate_left
  · intro W hW
    have o1 := cell_of_row W _ 1 _ _ _ hW
    have o2 := cell_of_row W _ 2 _ _ _ hW
    have o3 := cell_of_row W _ 3 _ _ _ hW
    simp only [Od.cells] at o1 o2 o3
    simp at o1 o2 o3
    go_simp
    try with_reducible rfl
  simp only [Act.put, sT, List.set]
  refine wpAnyH_all (fuel := 2) (rs := [2]) (by kernel_rfl) (by simp) ?_
  intro i hi
  obtain rfl : i = 2 := by simpa using hi
  clear hi
  refine call_at (d := some 27) rfl rfl (by rfl) 20 #[.pointer (some ⟨w0.heap.size, 0, none⟩)] (by kernel_rfl) ?_
  refine (tmine_any S0.out).mono ?_
  rintro e w1 ⟨v, rfl, ho, hb1⟩
  have S1 := hide (S0.out.below hb1)
  have P1 := hide (P0.out.trans (S0.out.stp hb1 166))
  have N1 := hide (numk_own S0.out hb1 ho)
  have K1 := hide ((S0.out.stp hb1 166).kept K0.out).1
  have G1 : w1.heap[w.heap.size]? = some (.cells O.cells 36 (0, 0)) := ((S0.out.stp hb1 166).kept K0.out).2.trans HS
  obtain ⟨av, cap, rfl⟩ := ho.shape
  clear ho hb1 S0 P0 K0 HS
  have hsl := hand_len L b
  refine ⟨_, rfl, G1, ?_⟩
  simp only [Act.put, sT, List.set]
  refine wpAnyH_all (fuel := 1) (rs := [9]) (by kernel_rfl) (by simp) ?_
  intro i hi
  obtain rfl : i = 9 := by simpa using hi
  clear hi
  refine call_at (d := some 34) rfl rfl (by rfl) 53 #[.pointer (some ⟨w0.heap.size, 0, none⟩), .slice av (handL L b).length cap, .int .i64 O.nth, .string O.name, .bool O.all] (by kernel_rfl) ?_
  refine (these_any S1.out N1.out (fun x hx => hand_lt hx) (by omega) O.nth hn0 hn1 O.name O.all).mono ?_
  rintro e w2 ⟨v', rfl, ho2, hb2⟩
  have S2 := hide (S1.out.below hb2)
  have T2 := hide (P1.out.trans (S1.out.stp hb2 166))
  have N2 := hide (numk_own S1.out hb2 ho2)
  have K2 := hide ((S1.out.stp hb2 166).kept K1.out).1
  have G2 : w2.heap[w.heap.size]? = some (.cells O.cells 36 (0, 0)) := ((S1.out.stp hb2 166).kept K1.out).2.trans G1
  obtain ⟨av2, cap2, rfl⟩ := ho2.shape
  clear ho2 hb2 S1 P1 N1 K1 G1 hsl
  refine ⟨_, rfl, G2, ?_⟩
  simp only [Act.put, sT, List.set]
  refine tw (i := 10) (d := some 5) (fuel := 0) (v := ?_) rfl rfl ?_ G2 ?_
  rotate_left
  · intro W hW; go_simp; try with_reducible rfl
  simp only [Act.put, sT, List.set]
  refine wpAnyH_done (by kernel_rfl) ?_ _
  have HM := hide (fun x (hx : x ∈ hadL L b O) => had_lt hx)
  have hml := had_len L b O
  have HL := hide (show partL L b O 1 (tx : Int) (evW L 6 b tx) = (partS L b 1 (tx : Int) (evW L 6 b tx) (hadL L b O)).1 from rfl)
  have HE := hide (show partE L b O 1 (tx : Int) (evW L 6 b tx) = sigE L b (hadL L b O) notHadS ++ (partS L b 1 (tx : Int) (evW L 6 b tx) (hadL L b O)).2 from rfl)
  change Hid (NumK _ _ _ (.slice av2 (hadL L b O).length cap2) (hadL L b O)) at N2
  rw [show meantL L (handL L b) O.nth O.all O.name = hadL L b O from rfl]
  generalize hadL L b O = q at *
  generalize hn : q.length = n at *
  have HNn := hide hn
  have GG2 := hide G2
  clear hn G2
  cases hz : decide (n = 0) with
  | true =>
    have hz0 : n = 0 := by simpa using hz
    subst hz0
    have hq0 : q = [] := List.eq_nil_of_length_eq_zero HNn.out
    have HE2 := hide (show partE L b O 1 (tx : Int) (evW L 6 b tx) = [tellE L b notHadS] by rw [HE.out, hq0]; rfl)
    have HL2 := hide (show partL L b O 1 (tx : Int) (evW L 6 b tx) = L by rw [HL.out, hq0]; rfl)
    clear hz hq0
    go_wp2_with fail
    refine (ttell_any S2.out hb _ (by omega)).mono ?_
    rintro e w3 ⟨rfl, S3h, T3h⟩
    have S3 := hide S3h
    have T3 := hide (T2.out.trans T3h)
    clear S3h T3h S2 T2 N2
    go_wp2_with fail
    go_loopw [42] (fun c wr => c = .int .i64 0 ∧ wr = w3) (fun _ _ => 0)
    case atStart => exact ⟨rfl, rfl⟩
    case round =>
      obtain ⟨rfl, rfl⟩ := hrel
      go_wp2
      go_end0
      exact ⟨rfl, by rw [HPL.out, HPE.out, HL2.out, HE2.out]; exact S3.out, T3.out⟩
  | false =>
    have hz0 : n ≠ 0 := by simpa using hz
    have hzi : ((n : Int) == 0) = false := by simp; omega
    have hq0 : q ≠ [] := fun e => by have := HNn.out; rw [e] at this; simp at this; omega
    have HE2 := hide (show partE L b O 1 (tx : Int) (evW L 6 b tx) = (partS L b 1 (tx : Int) (evW L 6 b tx) q).2 by rw [HE.out]; unfold sigE; rw [if_neg hq0]; rfl)
    clear hz hq0
    go_wp2_with fail
    go_loopw [42] (fun c wr => ∃ k : Nat, k ≤ n ∧ c = .int .i64 k ∧ Sn 52 [.int .i64 (b : Int)] w0 (partS L b 1 (tx : Int) (evW L 6 b tx) (q.take k)).1 (Es ++ (partS L b 1 (tx : Int) (evW L 6 b tx) (q.take k)).2) wr ∧ Stp w0.heap.size 166 w wr ∧ NumK w0.heap.size 166 wr (.slice av2 n cap2) q ∧ Kept w0.heap.size 166 wr w.heap.size ∧ wr.heap[w.heap.size]? = some (.cells O.cells 36 (0, 0))) (fun c _ => n - (intOf c).toNat)
    case atStart => exact ⟨0, by omega, rfl, by simpa [partS] using S2.out, T2.out, N2.out, K2.out, GG2.out⟩
    case round =>
      obtain ⟨k, hle, rfl, Rh, Th, Nh, Kh, Gh⟩ := hrel
      have R := hide Rh
      have TT := hide Th
      have N := hide Nh
      have K := hide Kh
      have G := hide Gh
      clear Rh Th Nh Kh Gh S2 T2 N2 K2 GG2
      by_cases hk : k < n
      · have hkq : k < q.length := by rw [HNn.out]; exact hk
        obtain ⟨bq, off, cap', e, hcell⟩ := N.out.cell hkq
        rw [HNn.out] at e
        injection e with e1 e2 e3
        subst e1 e3
        clear e2
        obtain ⟨i, ei, hi⟩ := HM.out _ (getD_mem hkq)
        have HT := hide (show partS L b 1 (tx : Int) (evW L 6 b tx) (q.take (k + 1)) = pstep b 1 (tx : Int) (evW L 6 b tx) (partS L b 1 (tx : Int) (evW L 6 b tx) (q.take k)) (i : Int) by rw [part_next L b 1 (tx : Int) (evW L 6 b tx) hkq, ei])
        rw [ei] at hcell
        have htl : (partS L b 1 (tx : Int) (evW L 6 b tx) (q.take k)).2.length ≤ 9 := by rw [part_len]; simp; omega
        have hii : (i : Int) < 9 := by omega
        have HMV := mv_same (part_mv L b 1 (tx : Int) (evW L 6 b tx) (q.take k))
        clear ei
        generalize partS L b 1 (tx : Int) (evW L 6 b tx) (q.take k) = s at *
        have HTN := hide HMV.2.2.2.2.1
        have HRM := hide (show s.1.room b = L.room b by rw [HMV.2.2.2.1])
        have HRB := hide (And.intro HMV.2.2.2.1 HMV.2.2.2.2.2)
        clear HMV
        have A1 := hide (R.out.alloc (.cells #[.string (s.1.tname i), .int .i64 (s.1.kind i), .int .i64 (s.1.wh i), .int .i64 (s.1.loc i), .bool (s.1.on i)] 28))
        have TA := hide (R.out.stp (below_box wr (.cells #[.string (s.1.tname i), .int .i64 (s.1.kind i), .int .i64 (s.1.wh i), .int .i64 (s.1.loc i), .bool (s.1.on i)] 28)) 166)
        have KA := hide (R.out.kept (below_box wr (.cells #[.string (s.1.tname i), .int .i64 (s.1.kind i), .int .i64 (s.1.wh i), .int .i64 (s.1.loc i), .bool (s.1.on i)] 28)) (Nat.le_refl _) (by simp))
        have GA := hide (heap_alloc_new wr (.cells #[.string (s.1.tname i), .int .i64 (s.1.kind i), .int .i64 (s.1.wh i), .int .i64 (s.1.loc i), .bool (s.1.on i)] 28))
        have OA := hide ((TA.out.kept K.out).2.trans G.out)
        have x1 := cell_of_row _ wr.heap.size 1 _ _ _ GA.out
        have x4 := cell_of_row _ wr.heap.size 4 _ _ _ GA.out
        have o0 := cell_of_row _ w.heap.size 0 _ _ _ OA.out
        have x0 := cell_of_row _ wr.heap.size 0 _ _ _ GA.out
        rw [show O.cells[0]? = some (.int .i64 10) by rw [← HVB.out]; rfl] at o0
        simp only [List.getElem?_toArray, List.getElem?_cons_succ, List.getElem?_cons_zero] at x1 x4 x0
        go_upto_region 14 with (first | (refine wl_sthing (.tmp 51) rfl rfl i hi rfl R.out ?_) | (refine wl_new 28 (.tmp 8) (.tmp 52) rfl rfl _ _ rfl rfl rfl Tryz.sizeThing rfl rfl ?_))
        generalize wr.alloc (.cells #[.string (s.1.tname i), .int .i64 (s.1.kind i), .int .i64 (s.1.wh i), .int .i64 (s.1.loc i), .bool (s.1.on i)] 28) = wA at A1 TA KA GA OA x1 x4 o0 x0 ⊢
        clear hcell
        by_cases hA : s.1.kind i = 2 ∧ s.1.on i = true
        · have hk2 : (s.1.kind i == 2) = true := by simp [hA.1]
          have HV := hide (show pstep b 1 (tx : Int) (evW L 6 b tx) s (i : Int) = (s.1, s.2 ++ [tellE s.1 b wornS]) by unfold pstep; rw [if_pos (by simpa using hA)])
          rw [hA.2] at x4
          clear hA
          go_wp2_with fail
          refine (ttell_any A1.out hb _ (by simp only [List.length_append]; omega)).mono ?_
          rintro e w4 ⟨rfl, S4h, T4h⟩
          have S4 := hide S4h
          have X4 := TA.out.trans T4h
          have T4 := hide (TT.out.trans X4)
          have N4 := hide (N.out.step X4)
          have K4 := hide (X4.kept K.out).1
          have G4 := hide ((X4.kept K.out).2.trans G.out)
          clear S4h T4h X4 R TT N K
          go_wp2
          go_roundw
          case rel => exact ⟨k + 1, by omega, by go_num, by rw [HT.out, HV.out]; have h := S4.out; rw [List.append_assoc] at h; exact h, T4.out, N4.out, K4.out, G4.out⟩
          case measure => simp [intOf]; omega
        · have hA2 : (s.1.kind i == 2) = false ∨ ((s.1.kind i == 2) = true ∧ s.1.on i = false) := by
            by_cases h : s.1.kind i = 2
            · exact .inr ⟨by simp [h], by cases h4 : s.1.on i with
                | false => rfl
                | true => exact absurd ⟨h, h4⟩ hA⟩
            · exact .inl (by simp [h])
          have HV := hide (show pstep b 1 (tx : Int) (evW L 6 b tx) s (i : Int) = (moveL s.1 i 1 (tx : Int), s.2 ++ [allE (moveL s.1 i 1 (tx : Int)) { (evW L 6 b tx) with thing := s.1.tname i }]) by unfold pstep; rw [if_neg (by simpa using hA), if_neg (by simp)]; rfl)
          have HEV := hide (show addE (moveL s.1 i 1 (tx : Int)) b 6 (tx : Int) 0 0 ((moveL s.1 i 1 (tx : Int)).bname tx) (s.1.tname i) ⟨#[]⟩ = { evW L 6 b tx with thing := s.1.tname i } by
            unfold addE evW evN; simp only [show (moveL s.1 i 1 (tx : Int)).room = s.1.room from rfl, show (moveL s.1 i 1 (tx : Int)).bname = s.1.bname from rfl, HRB.out.1, HRB.out.2])
          clear hA
          rcases hA2 with hk2 | ⟨hk2, h4⟩
          all_goals
            (try rw [h4] at x4)
            go_wp2_with fail
            have c2 := A1.out.thing i 2 hi (by omega)
            have c3 := A1.out.thing i 3 hi (by omega)
            have f2 := A1.out.soft (84 + i * 5 + 2)
            have f3 := A1.out.soft (84 + i * 5 + 3)
            simp only [Ld.thingCell] at c2 c3
            have S3 : Hid (Sn 52 [.int .i64 (b : Int)] w0 (moveL s.1 i 1 (tx : Int)) (Es ++ s.2) ((wA.setCell ⟨w0.heap.size, 84 + i * 5 + 2, none⟩ (.int .i64 1)).setCell ⟨w0.heap.size, 84 + i * 5 + 3, none⟩ (.int .i64 (tx : Int))).drew) := ((A1.out.set (by omega) (s.1.up_wh i hi 1)).set (by omega) ((s.1.setWh i 1).up_loc i hi (tx : Int))).drew
            have T3 : Hid (Stp w0.heap.size 166 wr ((wA.setCell ⟨w0.heap.size, 84 + i * 5 + 2, none⟩ (.int .i64 1)).setCell ⟨w0.heap.size, 84 + i * 5 + 3, none⟩ (.int .i64 (tx : Int))).drew) := TA.out.trans (((Stp.put (o := 166) (n := 84 + i * 5 + 2) (x := .int .i64 1) (by omega)).trans (Stp.put (o := 166) (n := 84 + i * 5 + 3) (x := .int .i64 (tx : Int)) (by omega))).trans (((A1.out.set (by omega) (s.1.up_wh i hi 1)).set (by omega) ((s.1.setWh i 1).up_loc i hi (tx : Int))).stp (below_drewN (Below.refl _ _) 1) 166))
            have Q3 : Hid (Stp w0.heap.size 166 wA ((wA.setCell ⟨w0.heap.size, 84 + i * 5 + 2, none⟩ (.int .i64 1)).setCell ⟨w0.heap.size, 84 + i * 5 + 3, none⟩ (.int .i64 (tx : Int))).drew) := (((Stp.put (o := 166) (n := 84 + i * 5 + 2) (x := .int .i64 1) (by omega)).trans (Stp.put (o := 166) (n := 84 + i * 5 + 3) (x := .int .i64 (tx : Int)) (by omega))).trans (((A1.out.set (by omega) (s.1.up_wh i hi 1)).set (by omega) ((s.1.setWh i 1).up_loc i hi (tx : Int))).stp (below_drewN (Below.refl _ _) 1) 166))
            go_region
            generalize ((wA.setCell ⟨w0.heap.size, 84 + i * 5 + 2, none⟩ (.int .i64 1)).setCell ⟨w0.heap.size, 84 + i * 5 + 3, none⟩ (.int .i64 (tx : Int))).drew = w3 at S3 T3 Q3 ⊢
            clear c2 c3 f2 f3
            have x0' : w3.cell? ⟨wr.heap.size, 0, none⟩ = some (.string (s.1.tname i)) := by rw [cell_of_row _ _ _ _ _ _ ((Q3.out.kept KA.out).2.trans GA.out)]; rfl
            clear x0 x1 x4
            go_wp2_with fail
            refine (tadd_with S3.out hb tx hto 6 0 0 (s.1.tname i) ⟨#[]⟩ (by simp only [List.length_append]; omega)).mono ?_
            rintro e w4 ⟨rfl, S4h, T4h⟩
            rw [HEV.out] at S4h
            have S4 := hide S4h
            have X4 := T3.out.trans T4h
            have T4 := hide (TT.out.trans X4)
            have N4 := hide (N.out.step X4)
            have K4 := hide (X4.kept K.out).1
            have G4 := hide ((X4.kept K.out).2.trans G.out)
            clear S4h T4h X4 R TT N K
            go_wp2
            go_roundw
            case rel => exact ⟨k + 1, by omega, by go_num, by rw [HT.out, HV.out]; have h := S4.out; rw [List.append_assoc] at h; exact h, T4.out, N4.out, K4.out, G4.out⟩
            case measure => simp [intOf]; omega
      · have hkn : k = n := by omega
        subst hkn
        have hall : q.take k = q := by rw [← HNn.out]; exact List.take_length
        rw [hall] at R
        clear hall
        go_wp2
        go_end0
        exact ⟨rfl, by rw [HPL.out, HPE.out, HL.out, HE2.out]; exact R.out, TT.out⟩
end Go.Proofs.YtaifjndkgfffpaaGreatDoor
