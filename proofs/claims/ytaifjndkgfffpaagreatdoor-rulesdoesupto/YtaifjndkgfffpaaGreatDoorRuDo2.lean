/-
  Do, where it says no; acts: contracts.
-/
import Derived.Test.YtaifjndkgfffpaaGreatDoorMgG
import Derived.Test.YtaifjndkgfffpaaGreatDoorMgF
namespace Go.Proofs.YtaifjndkgfffpaaGreatDoor
open Go.RowKit
set_option linter.unusedVariables false

/-- What Do refuses. -/
def refuses (L : Ld) (b : Int) (verb : Int) : Int := if goodL L = false then 2 else if amg b 6 = false then 3 else if L.here b.toNat = false then 3 else if verb < 0 ∨ 20 < verb then 5 else 0

/-- What lies where Do has entered. -/
structure DoRel (L : Ld) (O : Od) (w w1 : World) : Prop where
  cod : Cod w1 w.heap.size L
  ord : w1.heap[w.heap.size + 1]? = some (.cells O.cells 36 (0, 0))
  res : w1.heap[w.heap.size + 1 + 1]? = some (.cells zl.cells 34 (0, 0))
  low : Below w.heap.size w w1
theorem do_start (L : Ld) (O : Od) (w : World) : DoRel L O w (((w.alloc (.cells L.cells 34)).alloc (.cells O.cells 36)).alloc (.cells zl.cells 34)) := by
  refine ⟨((cod_new w L).alloc (.cells O.cells 36)).alloc (.cells zl.cells 34), ?_, ?_, ((below_box w (.cells L.cells 34)).alloc (by simp) (.cells O.cells 36)).alloc (by simp; omega) (.cells zl.cells 34)⟩
  · rw [Below.heap_alloc _ _ _ (by simp)]
    have := heap_alloc_new (w.alloc (.cells L.cells 34)) (.cells O.cells 36)
    rw [World.size_alloc] at this; exact this
  · have := heap_alloc_new ((w.alloc (.cells L.cells 34)).alloc (.cells O.cells 36)) (.cells zl.cells 34)
    rw [World.size_alloc, World.size_alloc] at this; exact this
theorem DoRel.call {L : Ld} {O : Od} {w w1 w2 : World} (h : DoRel L O w w1) (hb : Below w1.heap.size w1 w2) : DoRel L O w w2 := by
  have hl := (Array.getElem?_eq_some_iff.1 h.res).1
  exact ⟨h.cod.behind hb (Nat.le_refl _), by rw [hb.block _ (by omega)]; exact h.ord, by rw [hb.block _ (by omega)]; exact h.res, h.low.trans (hb.mono h.low.size)⟩

set_option maxRecDepth 100000 in
set_option maxHeartbeats 4000000 in
theorem do_bad (L : Ld) (b : Int) (O : Od) (w : World) (hwf : Wf L) (hr : refuses L b O.verb ≠ 0) :
    Calls Tryz.prog 4 #[.agg L.cells, .int .i64 b, .agg O.cells] w fun e w' => e = .returned (.tuple #[.agg L.cells, .slice none 0 0, .int .i64 (refuses L b O.verb)]) ∧ Below w.heap.size w w' := by
  have hz := (zero_of_info Tryz.zLand).1
  have D0 := hide (do_start L O w)
  go_enter Tryz.func4, Tryz.ntmps4
  go_wp2_with (refine wl_land (.tmp 3) rfl rfl _ L rfl D0.out.cod ?_)
  refine (good_any L _ hwf).mono ?_
  rintro e w1 ⟨rfl, hb1⟩
  have D1 := hide (D0.out.call hb1)
  clear hb1 D0
  cases hg : goodL L with
  | false =>
    have HV := hide (show refuses L b O.verb = 2 by unfold refuses; rw [if_pos hg])
    clear hg hr
    go_wp2_with (first | (refine wl_land (.tmp 3) rfl rfl _ L rfl D1.out.cod ?_) | (refine wl_row 34 (.tmp 6) (.tmp 14) rfl rfl (w.heap.size + 1 + 1) L.cells rfl rfl 34 zl.cells D1.out.res (by rw [L.size]; exact Tryz.sizeLand) (by rw [L.size, zl.size]) (land_one L) ?_))
    exact bodyPost_ret (v := .tuple #[.agg L.cells, .slice none 0 0, .int .i64 2]) (res_land rfl _ _ (w.heap.size + 1 + 1) L _ _ rfl rfl rfl (setRow_heap _ _ _ _ _ _ D1.out.res)) rfl ⟨by rw [HV.out], below_setRow D1.out.low (by omega) _⟩
  | true =>
    cases ha : amg b 6 with
    | false =>
      have HV := hide (show refuses L b O.verb = 3 by unfold refuses; rw [if_neg (by simp [hg]), if_pos ha])
      have hn := amg_neg ha
      clear hg hr
      by_cases h0 : b < 0
      · have hd0 : decide (b < 0) = true := by simpa using h0
        clear ha hn
        go_wp2_with (first | (refine wl_land (.tmp 3) rfl rfl _ L rfl D1.out.cod ?_) | (refine wl_row 34 (.tmp 6) (.tmp 30) rfl rfl (w.heap.size + 1 + 1) L.cells rfl rfl 34 zl.cells D1.out.res (by rw [L.size]; exact Tryz.sizeLand) (by rw [L.size, zl.size]) (land_one L) ?_))
        exact bodyPost_ret (v := .tuple #[.agg L.cells, .slice none 0 0, .int .i64 3]) (res_land rfl _ _ (w.heap.size + 1 + 1) L _ _ rfl rfl rfl (setRow_heap _ _ _ _ _ _ D1.out.res)) rfl ⟨by rw [HV.out], below_setRow D1.out.low (by omega) _⟩
      · have hd0 : decide (b < 0) = false := by simpa using h0
        have h6 : (6 : Int) ≤ b := by omega
        have hd6 : decide ((6 : Int) ≤ b) = true := by simpa using h6
        clear ha hn
        go_wp2_with (first | (refine wl_land (.tmp 3) rfl rfl _ L rfl D1.out.cod ?_) | (refine wl_row 34 (.tmp 6) (.tmp 30) rfl rfl (w.heap.size + 1 + 1) L.cells rfl rfl 34 zl.cells D1.out.res (by rw [L.size]; exact Tryz.sizeLand) (by rw [L.size, zl.size]) (land_one L) ?_))
        exact bodyPost_ret (v := .tuple #[.agg L.cells, .slice none 0 0, .int .i64 3]) (res_land rfl _ _ (w.heap.size + 1 + 1) L _ _ rfl rfl rfl (setRow_heap _ _ _ _ _ _ D1.out.res)) rfl ⟨by rw [HV.out], below_setRow D1.out.low (by omega) _⟩
    | true =>
      obtain ⟨h0, h6⟩ := amg_pos ha
      obtain ⟨k, rfl⟩ := Int.eq_ofNat_of_zero_le h0
      have hk : k < 6 := by omega
      have ch := D1.out.cod.being k 1 hk (by omega)
      simp only [Ld.beingCell] at ch
      cases hh : L.here k with
      | false =>
        have HV := hide (show refuses L (k : Int) O.verb = 3 by unfold refuses; rw [if_neg (by simp [hg]), if_neg (by simp [ha]), if_pos (by simpa using hh)])
        rw [hh] at ch
        clear hg hr ha hh
        go_wp2_with (first | (refine wl_land (.tmp 3) rfl rfl _ L rfl D1.out.cod ?_) | (refine wl_row 34 (.tmp 6) (.tmp 30) rfl rfl (w.heap.size + 1 + 1) L.cells rfl rfl 34 zl.cells D1.out.res (by rw [L.size]; exact Tryz.sizeLand) (by rw [L.size, zl.size]) (land_one L) ?_))
        exact bodyPost_ret (v := .tuple #[.agg L.cells, .slice none 0 0, .int .i64 3]) (res_land rfl _ _ (w.heap.size + 1 + 1) L _ _ rfl rfl rfl (setRow_heap _ _ _ _ _ _ D1.out.res)) rfl ⟨by rw [HV.out], below_setRow D1.out.low (by omega) _⟩
      | true =>
        have hv : O.verb < 0 ∨ 20 < O.verb := by
          by_cases hx : O.verb < 0 ∨ 20 < O.verb
          · exact hx
          · exfalso; apply hr; unfold refuses; rw [if_neg (by simp [hg]), if_neg (by simp [ha]), if_neg (by simp [hh]), if_neg hx]
        have HV := hide (show refuses L (k : Int) O.verb = 5 by unfold refuses; rw [if_neg (by simp [hg]), if_neg (by simp [ha]), if_neg (by simp [hh]), if_pos hv])
        rw [hh] at ch
        have cv : w1.cell? ⟨w.heap.size + 1, 0, none⟩ = some (.int .i64 O.verb) := by rw [cell_of_row _ _ _ _ _ _ D1.out.ord]; rfl
        clear hg hr ha hh
        by_cases hv0 : O.verb < 0
        · have hdv : decide (O.verb < 0) = true := by simpa using hv0
          clear hv
          go_wp2_with (first | (refine wl_land (.tmp 3) rfl rfl _ L rfl D1.out.cod ?_) | (refine wl_row 34 (.tmp 6) (.tmp 40) rfl rfl (w.heap.size + 1 + 1) L.cells rfl rfl 34 zl.cells D1.out.res (by rw [L.size]; exact Tryz.sizeLand) (by rw [L.size, zl.size]) (land_one L) ?_))
          exact bodyPost_ret (v := .tuple #[.agg L.cells, .slice none 0 0, .int .i64 5]) (res_land rfl _ _ (w.heap.size + 1 + 1) L _ _ rfl rfl rfl (setRow_heap _ _ _ _ _ _ D1.out.res)) rfl ⟨by rw [HV.out], below_setRow D1.out.low (by omega) _⟩
        · have hdv : decide (O.verb < 0) = false := by simpa using hv0
          have hv1 : 20 < O.verb := by omega
          have hdw : decide (20 < O.verb) = true := by simpa using hv1
          clear hv
          go_wp2_with (first | (refine wl_land (.tmp 3) rfl rfl _ L rfl D1.out.cod ?_) | (refine wl_row 34 (.tmp 6) (.tmp 40) rfl rfl (w.heap.size + 1 + 1) L.cells rfl rfl 34 zl.cells D1.out.res (by rw [L.size]; exact Tryz.sizeLand) (by rw [L.size, zl.size]) (land_one L) ?_))
          exact bodyPost_ret (v := .tuple #[.agg L.cells, .slice none 0 0, .int .i64 5]) (res_land rfl _ _ (w.heap.size + 1 + 1) L _ _ rfl rfl rfl (setRow_heap _ _ _ _ _ _ D1.out.res)) rfl ⟨by rw [HV.out], below_setRow D1.out.low (by omega) _⟩
end Go.Proofs.YtaifjndkgfffpaaGreatDoor
