/-
  The document's own turn: who goes: the contract. Written by a program.
-/
import Derived.Test.YtaifjndkgfffpaaGreatDoorMg1
import Derived.Test.YtaifjndkgfffpaaGreatDoorMgG
namespace Go.Proofs.YtaifjndkgfffpaaGreatDoor
open Go.RowKit
set_option linter.unusedVariables false

theorem kept_setRow {g o k : Nat} {w : World} {cs : Array Value} (h : Kept g o w k) : Kept g o (w.setRow k cs) k :=
  ⟨by simp [World.setRow]; exact h.lt, h.ne, by rw [rowB_same (setRow_off w k g cs (Ne.symm h.ne))]; exact h.off⟩
theorem add_way (L : Ld) (b : Nat) (kind d : Int) : allE L (addE L b kind (-1) d 0 ⟨#[]⟩ ⟨#[]⟩ ⟨#[]⟩) = wayE L kind b d := rfl

set_option maxRecDepth 100000 in
set_option maxHeartbeats 8000000 in
theorem twalk_any {w0 : World} {L : Ld} {Es : List Ev} {w : World} {b : Nat} (hS : Sn 52 [.int .i64 (b : Int)] w0 L Es w) (hf : Fine L) (hg : goodL L = true) (hv : Vr w0) (hb : b < 6) (d : Nat) (hd : d < 6) (hlen : Es.length ≤ 800000) :
    Calls Tryz.prog 12 #[.pointer (some ⟨w0.heap.size, 0, none⟩), .int .i64 (d : Int)] w fun e w' => e = .returned (.tuple #[]) ∧ Sn 52 [.int .i64 (b : Int)] w0 (walkL L b d) (Es ++ walkE L b d) w' ∧ Stp w0.heap.size 166 w w' := by
  obtain ⟨r, hr, er⟩ := hf.room b hb
  have eE : exitL L b d = L.exit r d := by unfold exitL; rw [er]; rfl
  have eS : shutL L b d = L.shut r d := by unfold shutL; rw [er]; rfl
  have HF := hide hf
  have HV := hide hv
  have HG := hide hg
  have HER := hide er
  have S0 := hide hS
  have hl0 := hS.lt
  have hbi : (b : Int) < 6 := by omega
  have hri : (r : Int) < 6 := by omega
  have hdi : (d : Int) < 6 := by omega
  clear hS hf hv hg er
  go_enter Tryz.func12, Tryz.ntmps12
  go_upto_region 0 with fail
  go_cut [4] (fun p wc => ∃ k0, p = .pointer (some ⟨k0, 0, none⟩) ∧ LkRel w0 L Es b r k0 w wc ∧ Kept w0.heap.size 166 wc k0)
  case first =>
    refine wp_region_held (S := fun W => Sn 52 [.int .i64 (b : Int)] w0 L Es W) (by kernel_rfl) ?_
    have HS := S0.out.drew
    have T4 : Hid (Stp w0.heap.size 166 w w.drew) := S0.out.stp (below_drewN (Below.refl _ _) 1) 166
    have hle2 : w.heap.size ≤ w.drew.heap.size := Nat.le_refl _
    clear S0
    change wpAnyH _ _ _ _ _ _ _ _ w.drew
    generalize w.drew = W0 at HS T4 hle2 ⊢
    refine tw (i := 0) (d := some 5) (fuel := 9) (v := ?_) rfl rfl ?_ HS ?_
    rotate_left
    · intro W hW; go_simp; try with_reducible rfl
    simp only [Act.put, sT, List.set]
    refine tw (i := 1) (d := some 6) (fuel := 8) (v := ?_) rfl rfl ?_ HS ?_
    rotate_left
    · intro W hW; go_simp; try with_reducible rfl
    simp only [Act.put, sT, List.set]
    refine tw (i := 3) (d := some 8) (fuel := 7) (v := ?_) rfl rfl ?_ HS ?_
    rotate_left
    · intro W hW; go_simp; try with_reducible rfl
    simp only [Act.put, sT, List.set]
    refine tw (i := 4) (d := some 9) (fuel := 6) (v := ?_) rfl rfl ?_ HS ?_
    rotate_left
    · intro W hW; go_simp; try with_reducible rfl
    simp only [Act.put, sT, List.set]
    refine tw (i := 5) (d := some 10) (fuel := 5) (v := ?_) rfl rfl ?_ HS ?_
    rotate_left
    · intro W hW; go_simp; try with_reducible rfl
    simp only [Act.put, sT, List.set]
    refine wpAnyH_all (fuel := 4) (rs := [2, 8]) (by kernel_rfl) (by simp) ?_
    intro i hi
    rcases (show i = 2 ∨ i = 8 by simpa using hi) with rfl | rfl
    · clear hi
      refine call_at (d := some 7) rfl rfl (by rfl) 47 #[.pointer (some ⟨w0.heap.size, 0, none⟩)] (by kernel_rfl) ?_
      refine (there_any HS hb).mono ?_
      rintro e x1 ⟨rfl, n1, hx1⟩
      rw [HER.out]
      have S1 : Sn 52 [.int .i64 (b : Int)] w0 L Es x1 := by rw [hx1]; exact HS.drewN n1
      have T1 : Hid (Stp w0.heap.size 166 w x1) := by rw [hx1]; exact T4.out.trans (HS.stp (below_drewN (Below.refl _ _) n1) 166)
      have hle1 : w.heap.size ≤ x1.heap.size := by rw [hx1]; exact hle2
      clear hx1 HS T4 hle2
      refine ⟨_, rfl, S1, ?_⟩
      simp only [Act.put, sT, List.set]
      refine tw (i := 6) (d := some 11) (fuel := 3) (v := ?_) rfl rfl ?_ S1 ?_
      rotate_left
      · intro W hW; go_simp; try with_reducible rfl
      simp only [Act.put, sT, List.set]
      refine tk (i := 7) (d := some 12) (fuel := 2) (v := .agg (L.rcells r)) rfl rfl (Or.inl ⟨by rfl, fun W hW => exec_sroom (.tmp 11) rfl r hr rfl hW⟩) S1 ?_
      simp only [Act.put, sT, List.set]
      refine wpAnyH_all (fuel := 1) (rs := [8]) (by kernel_rfl) (by simp) ?_
      intro i hi
      obtain rfl : i = 8 := by simpa using hi
      clear hi
      refine run_at (d := some 4) (v := .pointer (some ⟨x1.heap.size, 0, none⟩)) (w' := x1.alloc (.cells zroom 25)) rfl rfl (by rfl) (exec_allocroom rfl) ?_
      refine ⟨S1.alloc _, ?_⟩
      simp only [Act.put, sT, List.set]
      refine wpAnyH_all (fuel := 0) (rs := [9]) (by kernel_rfl) (by simp) ?_
      intro i hi
      obtain rfl : i = 9 := by simpa using hi
      clear hi
      refine skip_at (d := none) (w' := (x1.alloc (.cells zroom 25)).setRow x1.heap.size (L.rcells r)) rfl rfl (by rfl) (exec_storeroom (.tmp 4) (.tmp 12) rfl rfl rfl (heap_alloc_new x1 _) rfl) ?_
      have K1 := S1.kept (below_box x1 (.cells zroom 25)) (Nat.le_refl _) (by simp)
      have R := hide (lk_set (r := r) (S1.alloc (.cells zroom 25)) (T1.out.trans (S1.stp (below_box x1 _) 166)) (heap_alloc_new x1 _) K1 hle1 hl0)
      refine ⟨R.out.sn, ?_⟩
      simp only [Act.put]
      refine wpAnyH_done (by kernel_rfl) ?_ _
      go_wp2
      go_meet
      exact ⟨_, rfl, R.out, kept_setRow K1⟩
    · clear hi
      refine run_at (d := some 4) (v := .pointer (some ⟨W0.heap.size, 0, none⟩)) (w' := W0.alloc (.cells zroom 25)) rfl rfl (by rfl) (exec_allocroom rfl) ?_
      refine ⟨HS.alloc _, ?_⟩
      simp only [Act.put, sT, List.set]
      refine wpAnyH_all (fuel := 3) (rs := [2]) (by kernel_rfl) (by simp) ?_
      intro i hi
      obtain rfl : i = 2 := by simpa using hi
      clear hi
      refine call_at (d := some 7) rfl rfl (by rfl) 47 #[.pointer (some ⟨w0.heap.size, 0, none⟩)] (by kernel_rfl) ?_
      refine (there_any (HS.alloc (.cells zroom 25)) hb).mono ?_
      rintro e x1 ⟨rfl, n1, hx1⟩
      rw [HER.out]
      have S1 : Sn 52 [.int .i64 (b : Int)] w0 L Es x1 := by rw [hx1]; exact (HS.alloc _).drewN n1
      have hg1 : x1.heap[W0.heap.size]? = some (.cells zroom 25 (0, 0)) := by rw [hx1]; exact heap_alloc_new W0 _
      have K1 : Kept w0.heap.size 166 x1 W0.heap.size := by rw [hx1]; exact HS.kept (below_drewN (below_box W0 _) n1) (Nat.le_refl _) (by simp [World.drewN])
      have R := hide (lk_set (r := r) S1 (show Stp w0.heap.size 166 w x1 by rw [hx1]; exact T4.out.trans ((HS.stp (below_box W0 _) 166).trans ((HS.alloc _).stp (below_drewN (Below.refl _ _) n1) 166))) hg1 K1 hle2 hl0)
      clear hx1 T4
      refine ⟨_, rfl, S1, ?_⟩
      simp only [Act.put, sT, List.set]
      refine tw (i := 6) (d := some 11) (fuel := 2) (v := ?_) rfl rfl ?_ S1 ?_
      rotate_left
      · intro W hW; go_simp; try with_reducible rfl
      simp only [Act.put, sT, List.set]
      refine tk (i := 7) (d := some 12) (fuel := 1) (v := .agg (L.rcells r)) rfl rfl (Or.inl ⟨by rfl, fun W hW => exec_sroom (.tmp 11) rfl r hr rfl hW⟩) S1 ?_
      simp only [Act.put, sT, List.set]
      refine wpAnyH_all (fuel := 0) (rs := [9]) (by kernel_rfl) (by simp) ?_
      intro i hi
      obtain rfl : i = 9 := by simpa using hi
      clear hi
      refine skip_at (d := none) (w' := x1.setRow W0.heap.size (L.rcells r)) rfl rfl (by rfl) (exec_storeroom (.tmp 4) (.tmp 12) rfl rfl rfl hg1 rfl) ?_
      refine ⟨R.out.sn, ?_⟩
      simp only [Act.put]
      refine wpAnyH_done (by kernel_rfl) ?_ _
      go_wp2
      go_meet
      exact ⟨_, rfl, R.out, kept_setRow K1⟩
  case rest =>
    obtain ⟨k0, rfl, Rh, Kh⟩ := hcut
    have R4 := hide Rh
    have K4 := hide Kh
    clear Rh Kh S0
    have xE : wc.cell? ⟨k0, 2 + d, none⟩ = some (.int .i64 (L.exit r d)) := by
      rw [cell_of_row _ _ _ _ _ _ R4.out.room, L.rcells_get r (2 + d) (by omega), Nat.add_comm]; simp [Ld.roomCell, hd]
    have xS : wc.cell? ⟨k0, 8 + d, none⟩ = some (.bool (L.shut r d)) := by
      rw [cell_of_row _ _ _ _ _ _ R4.out.room, L.rcells_get r (8 + d) (by omega), show 8 + d = (d + 6) + 2 by omega]; simp [Ld.roomCell]
    by_cases h0 : L.exit r d = 0
    · have HE := hide (show walkE L b d = [tellE L b noWayS] by unfold walkE; rw [eE, if_pos h0])
      have HL := hide (show walkL L b d = L by unfold walkL; rw [eE, if_pos h0])
      have hb0 : (L.exit r d == 0) = true := by simp [h0]
      clear h0 eE eS K4
      go_wp2_with fail
      refine (ttell_any R4.out.sn hb _ (by omega)).mono ?_
      rintro e w5 ⟨rfl, S5h, T5h⟩
      have S5 := hide S5h
      have T5 := hide (R4.out.st.trans T5h)
      clear S5h T5h R4
      go_wp2
      exact bodyPost_ret (v := .tuple #[]) (results_none rfl _ _ _) rfl ⟨rfl, by rw [HE.out, HL.out]; exact S5.out, T5.out⟩
    · have hb0 : (L.exit r d == 0) = false := by simp [h0]
      by_cases h1 : L.shut r d = true
      · have HE := hide (show walkE L b d = [tellE L b shutS] by unfold walkE; rw [eE, if_neg h0, eS, if_pos h1])
        have HL := hide (show walkL L b d = L by unfold walkL; rw [eE, if_neg h0, eS, if_pos h1])
        rw [h1] at xS
        clear h0 h1 eE eS K4
        go_wp2_with fail
        refine (ttell_any R4.out.sn hb _ (by omega)).mono ?_
        rintro e w5 ⟨rfl, S5h, T5h⟩
        have S5 := hide S5h
        have T5 := hide (R4.out.st.trans T5h)
        clear S5h T5h R4
        go_wp2
        exact bodyPost_ret (v := .tuple #[]) (results_none rfl _ _ _) rfl ⟨rfl, by rw [HE.out, HL.out]; exact S5.out, T5.out⟩
      · have h1' : L.shut r d = false := by simpa using h1
        obtain ⟨t, ht, et⟩ : ∃ t : Nat, t < 6 ∧ L.exit r d = (t : Int) + 1 := by
          rcases HF.out.exit r d hr hd with h | h
          · exact absurd h h0
          · exact h
        have HL0 : walkL L b d = goneL L b (t : Int) := by unfold walkL; rw [eE, if_neg h0, eS, if_neg h1, et]; congr 1; omega
        have HL := hide HL0
        have HE := hide (show walkE L b d = [wayE L 1 b d, wayE (goneL L b (t : Int)) 2 b (oppN d : Int)] ++ lookE (goneL L b (t : Int)) b by
          unfold walkE; rw [eE, if_neg h0, eS, if_neg h1, HL0])
        have hG := hide (gone_good HG.out b (r := (t : Int)) (amg_mk (by omega) (by omega)))
        have hF := hide (((al_room L b (t : Int)).trans (al_foe _ b 0)).fine HF.out hG.out)
        rw [h1'] at xS
        have XE := hide xE
        rw [et] at xE
        rw [et] at hb0
        have hw : wrap64 ((t : Int) + 1 - 1) = (t : Int) := by rw [show (t : Int) + 1 - 1 = (t : Int) by omega]; simp only [wrap64]; omega
        clear h0 h1 h1' eE eS HL0
        go_wp2_with fail
        refine (tadd_none R4.out.sn hb 1 (d : Int) 0 ⟨#[]⟩ ⟨#[]⟩ (by omega)).mono ?_
        rintro e w2 ⟨rfl, S2h, T2h⟩
        rw [add_way] at S2h
        have S2 := hide S2h
        have T2 := hide (R4.out.st.trans T2h)
        have d3 := S2h.being b 3 hb (by omega)
        have d5 := S2h.being b 5 hb (by omega)
        have f3 := S2h.soft (129 + b * 6 + 3)
        have f5 := S2h.soft (129 + b * 6 + 5)
        have dE : w2.cell? ⟨k0, 2 + d, none⟩ = some (.int .i64 ((t : Int) + 1)) := by
          rw [← et, ← XE.out]; simp only [World.cell?, (T2h.kept K4.out).2]
        have db : w2.cell? ⟨w0.heap.size, 165, none⟩ = some (.int .i64 (b : Int)) := S2h.fore 0 (by simp)
        have hk0 : k0 ≠ w0.heap.size := K4.out.ne
        have S3 : Hid (Sn 52 [.int .i64 (b : Int)] w0 (goneL L b (t : Int)) (Es ++ [wayE L 1 b d]) ((w2.setCell ⟨w0.heap.size, 129 + b * 6 + 3, none⟩ (.int .i64 (t : Int))).setCell ⟨w0.heap.size, 129 + b * 6 + 5, none⟩ (.int .i64 0)).drew) := ((S2h.set (by omega) (L.up_room b hb (t : Int))).set (by omega) ((L.setRoom b (t : Int)).up_foe b hb 0)).drew
        have T3 : Hid (Stp w0.heap.size 166 w ((w2.setCell ⟨w0.heap.size, 129 + b * 6 + 3, none⟩ (.int .i64 (t : Int))).setCell ⟨w0.heap.size, 129 + b * 6 + 5, none⟩ (.int .i64 0)).drew) := ((T2.out.trans (Stp.put (o := 166) (n := 129 + b * 6 + 3) (x := .int .i64 (t : Int)) (by omega))).trans (Stp.put (o := 166) (n := 129 + b * 6 + 5) (x := .int .i64 0) (by omega))).trans (((S2h.set (by omega) (L.up_room b hb (t : Int))).set (by omega) ((L.setRoom b (t : Int)).up_foe b hb 0)).stp (below_drewN (Below.refl _ _) 1) 166)
        clear S2h T2h xE xS S2 T2 R4 K4 XE et
        simp only [Ld.beingCell] at d3 d5
        have hoi : Int.tmod ((d : Int) + 3) 6 = (oppN d : Int) := by
          rcases (show d = 0 ∨ d = 1 ∨ d = 2 ∨ d = 3 ∨ d = 4 ∨ d = 5 by omega) with e | e | e | e | e | e <;> rw [e] <;> rfl
        go_wp2_with fail
        go_region
        go_wp2_with fail
        generalize ((w2.setCell ⟨w0.heap.size, 129 + b * 6 + 3, none⟩ (.int .i64 (t : Int))).setCell ⟨w0.heap.size, 129 + b * 6 + 5, none⟩ (.int .i64 0)).drew = w3 at S3 T3 ⊢
        refine (tadd_none S3.out hb 2 (oppN d : Int) 0 ⟨#[]⟩ ⟨#[]⟩ (by simp only [List.length_append, List.length_cons, List.length_nil]; omega)).mono ?_
        rintro e w4 ⟨rfl, S4h, T4h⟩
        rw [add_way] at S4h
        have S4 := hide S4h
        have T4 := hide (T3.out.trans T4h)
        clear S4h T4h S3 T3 d3 d5 dE f3 f5 db
        go_wp2_with fail
        refine (tlook_any S4.out hF.out HV.out hb (by simp only [List.length_append, List.length_cons, List.length_nil]; omega)).mono ?_
        rintro e w5 ⟨rfl, S5h, T5h⟩
        have S5 := hide S5h
        have T5 := hide (T4.out.trans T5h)
        clear S5h T5h S4 T4
        go_wp2
        go_end0
        exact ⟨rfl, by rw [HL.out, HE.out]; simpa only [List.append_assoc, List.cons_append, List.nil_append] using S5.out, T5.out⟩
end Go.Proofs.YtaifjndkgfffpaaGreatDoor
