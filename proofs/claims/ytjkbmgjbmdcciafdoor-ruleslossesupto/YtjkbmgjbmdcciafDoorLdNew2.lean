/-
  New: its contract.
-/
import Derived.Test.YtjkbmgjbmdcciafDoorLdNew
namespace Go.Proofs.YtjkbmgjbmdcciafDoor
open Go.RowKit
set_option linter.unusedVariables false

set_option maxRecDepth 100000 in
set_option maxHeartbeats 400000 in
theorem new_any (w : World) : Calls Tryd.prog 13 #[] w fun e w' => e = .returned (.agg nl.cells) ∧ Below w.heap.size w w' := by
  have hz := (zero_of_info Tryd.zLand).1
  go_enter Tryd.func13, Tryd.ntmps13
  go_wp2_with fail
  refine (newRooms_any _).mono ?_
  rintro e w1 ⟨rfl, hb1⟩
  have c1 : Cod w1 w.heap.size zl := (cod_new w zl).behind hb1 (Nat.le_refl _)
  have l1 : Below w.heap.size w w1 := ((Below.refl w.heap.size w).alloc (Nat.le_refl _) _).trans (hb1.mono (by simp))
  clear hb1
  go_wp2_with fail
  refine (newThings_any _).mono ?_
  rintro e w2 ⟨rfl, hb2⟩
  have c2 : Cod w2 w.heap.size zl := c1.behind hb2 (Nat.le_refl _)
  have l2 : Below w.heap.size w w2 := l1.trans (hb2.mono l1.size)
  clear hb2 c1 l1
  go_wp2_with fail
  refine (newBeings_any _).mono ?_
  rintro e w3 ⟨rfl, hb3⟩
  have c3 : Cod w3 w.heap.size zl := c2.behind hb3 (Nat.le_refl _)
  have l3 : Below w.heap.size w w3 := l2.trans (hb3.mono l2.size)
  clear hb3 c2 l2
  go_wp2_with (first | (refine wl_build 34 #[(0, .tmp 1), (1, .tmp 2), (2, .tmp 3)] rfl ?hh _ _ bl ?hv ?_) | (refine wl_row 34 (.tmp 0) (.tmp 4) rfl rfl w.heap.size nl.cells rfl rfl 34 zl.cells c3 ?s1 ?s2 one_land ?_))
  case s1 => rw [Ld.size]; exact (zero_of_info Tryd.zLand).2
  case s2 => rw [Ld.size, Ld.size]
  refine bodyPost_ret (v := .agg nl.cells) (results_cell_row rfl _ _ w.heap.size 34 nl.cells (0, 0) _ rfl (setRow_heap w3 w.heap.size _ _ _ _ c3) Tryd.underlying34 rfl (by rw [Ld.size]; exact (zero_of_info Tryd.zLand).2)) rfl ⟨rfl, below_setRow l3 (Nat.le_refl _) _⟩

end Go.Proofs.YtjkbmgjbmdcciafDoor
