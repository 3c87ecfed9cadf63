/-
  The document's own Act: what it refuses: the contract.
-/
import Derived.Test.YtaifjndkgfffpaaGreatDoorMgT
import Derived.Test.YtaifjndkgfffpaaGreatDoorRuDo2
import Derived.Test.YtaifjndkgfffpaaGreatDoorMg2
namespace Go.Proofs.YtaifjndkgfffpaaGreatDoor
open Go.RowKit
set_option linter.unusedVariables false

theorem box_good {L : Ld} (hg : goodL L = true) : BoxOk L := by
  intro i hi h2
  have h := (good_kind hg i hi).2
  rw [h2] at h
  unfold gplace at h
  simp at h
  have ha : amg (L.loc i) 9 = true := by
    first | exact h.1 | exact h.1.1 | (simp only [Bool.and_eq_true] at h; exact h.1) | exact h
  have := amg_pos ha
  exact ⟨(L.loc i).toNat, by omega, by omega⟩

set_option maxRecDepth 100000 in
set_option maxHeartbeats 4000000 in
theorem actof_bad (L : Ld) (b : Int) (O : Od) (w : World) (hr : refuses L b O.verb ≠ 0) :
    Calls Tryz.prog 5 #[.agg L.cells, .int .i64 b, .agg O.cells] w fun e w' => e = .returned (.tuple #[.agg L.cells, .slice none 0 0, .int .i64 (refuses L b O.verb)]) ∧ Below w.heap.size w w' := by
  have hz := (zero_of_info Tryz.zLand).1
  have D0 := hide (do_start L O w)
  have HRE := hide (refG_eq L)
  go_enter Tryz.func5, Tryz.ntmps5
  go_wp2_with (refine wl_land (.tmp 3) rfl rfl _ L rfl D0.out.cod ?_)
  refine (goodland_any L _).mono ?_
  rintro e w1 ⟨rfl, hb1⟩
  have D1 := hide (D0.out.call hb1)
  rw [HRE.out]
  clear hb1 D0
  cases hg : goodL L with
  | false =>
    have HV := hide (show refuses L b O.verb = 2 by unfold refuses; rw [if_pos hg])
    clear hg hr
    go_wp2_with (first | (refine wl_land (.tmp 3) rfl rfl _ L rfl D1.out.cod ?_) | (refine wl_row 34 (.tmp 6) (.tmp 15) rfl rfl (w.heap.size + 1 + 1) L.cells rfl rfl 34 zl.cells D1.out.res (by rw [L.size]; exact Tryz.sizeLand) (by rw [L.size, zl.size]) (land_one L) ?_))
    exact bodyPost_ret (v := .tuple #[.agg L.cells, .slice none 0 0, .int .i64 2]) (res_land rfl _ _ (w.heap.size + 1 + 1) L _ _ rfl rfl rfl (setRow_heap _ _ _ _ _ _ D1.out.res)) rfl ⟨by rw [HV.out], below_setRow D1.out.low (by omega) _⟩
  | true =>
    have HA : Hid (abtL L b = false → refuses L b O.verb = 3) := by
      intro h
      unfold abtL at h
      unfold refuses
      rw [if_neg (by simp [hg])]
      cases ha : amg b 6 with
      | false => rw [if_pos rfl]
      | true =>
        rw [ha] at h
        rw [if_neg (by simp), if_pos (by simpa using h)]
    have HB : Hid (abtL L b = true → refuses L b O.verb ≠ 0 → O.verb < 0 ∨ 20 < O.verb) := by
      intro h hr
      unfold abtL at h
      simp only [Bool.and_eq_true] at h
      by_cases hx : O.verb < 0 ∨ 20 < O.verb
      · exact hx
      · exfalso; apply hr; unfold refuses; rw [if_neg (by simp [hg]), if_neg (by simp [h.1]), if_neg (by simp [h.2]), if_neg hx]
    have HC : Hid (abtL L b = true → (O.verb < 0 ∨ 20 < O.verb) → refuses L b O.verb = 5) := by
      intro h hx
      unfold abtL at h
      simp only [Bool.and_eq_true] at h
      unfold refuses; rw [if_neg (by simp [hg]), if_neg (by simp [h.1]), if_neg (by simp [h.2]), if_pos hx]
    clear hg
    go_wp2_with (refine wl_land (.tmp 3) rfl rfl _ L rfl D1.out.cod ?_)
    refine (about_any L b _).mono ?_
    rintro e w2 ⟨rfl, hb2⟩
    have D2 := hide (D1.out.call hb2)
    clear hb2 D1
    cases ha : abtL L b with
    | false =>
      have HV := hide (HA.out ha)
      clear ha hr
      go_wp2_with (first | (refine wl_land (.tmp 3) rfl rfl _ L rfl D2.out.cod ?_) | (refine wl_row 34 (.tmp 6) (.tmp 20) rfl rfl (w.heap.size + 1 + 1) L.cells rfl rfl 34 zl.cells D2.out.res (by rw [L.size]; exact Tryz.sizeLand) (by rw [L.size, zl.size]) (land_one L) ?_))
      exact bodyPost_ret (v := .tuple #[.agg L.cells, .slice none 0 0, .int .i64 3]) (res_land rfl _ _ (w.heap.size + 1 + 1) L _ _ rfl rfl rfl (setRow_heap _ _ _ _ _ _ D2.out.res)) rfl ⟨by rw [HV.out], below_setRow D2.out.low (by omega) _⟩
    | true =>
      have hv := HB.out ha hr
      have HV := hide (HC.out ha hv)
      have cv : w2.cell? ⟨w.heap.size + 1, 0, none⟩ = some (.int .i64 O.verb) := by rw [cell_of_row _ _ _ _ _ _ D2.out.ord]; rfl
      clear ha hr
      by_cases hv0 : O.verb < 0
      · have hdv : decide (O.verb < 0) = true := by simpa using hv0
        clear hv
        go_wp2_with (first | (refine wl_land (.tmp 3) rfl rfl _ L rfl D2.out.cod ?_) | (refine wl_row 34 (.tmp 6) (.tmp 29) rfl rfl (w.heap.size + 1 + 1) L.cells rfl rfl 34 zl.cells D2.out.res (by rw [L.size]; exact Tryz.sizeLand) (by rw [L.size, zl.size]) (land_one L) ?_))
        exact bodyPost_ret (v := .tuple #[.agg L.cells, .slice none 0 0, .int .i64 5]) (res_land rfl _ _ (w.heap.size + 1 + 1) L _ _ rfl rfl rfl (setRow_heap _ _ _ _ _ _ D2.out.res)) rfl ⟨by rw [HV.out], below_setRow D2.out.low (by omega) _⟩
      · have hdv : decide (O.verb < 0) = false := by simpa using hv0
        have hv1 : 20 < O.verb := by omega
        have hdw : decide (20 < O.verb) = true := by simpa using hv1
        clear hv
        go_wp2_with (first | (refine wl_land (.tmp 3) rfl rfl _ L rfl D2.out.cod ?_) | (refine wl_row 34 (.tmp 6) (.tmp 29) rfl rfl (w.heap.size + 1 + 1) L.cells rfl rfl 34 zl.cells D2.out.res (by rw [L.size]; exact Tryz.sizeLand) (by rw [L.size, zl.size]) (land_one L) ?_))
        exact bodyPost_ret (v := .tuple #[.agg L.cells, .slice none 0 0, .int .i64 5]) (res_land rfl _ _ (w.heap.size + 1 + 1) L _ _ rfl rfl rfl (setRow_heap _ _ _ _ _ _ D2.out.res)) rfl ⟨by rw [HV.out], below_setRow D2.out.low (by omega) _⟩
end Go.Proofs.YtaifjndkgfffpaaGreatDoor
