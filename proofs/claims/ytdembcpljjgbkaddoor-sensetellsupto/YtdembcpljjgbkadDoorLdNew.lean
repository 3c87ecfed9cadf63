/-
  The land as it begins; Opposite at 1: contracts.
-/
import Derived.Test.YtdembcpljjgbkadDoorLdNewF
namespace Go.Proofs.YtdembcpljjgbkadDoor
open Go.RowKit
set_option linter.unusedVariables false

set_option maxRecDepth 100000 in
set_option maxHeartbeats 400000 in
theorem newBeings_any (w : World) : Calls Tryd.prog 59 #[] w fun e w' => e = .returned (.agg nl.beingsA) ∧ Below w.heap.size w w' := by
  have hz := (zero_of_info Tryd.zBeings).1
  go_enter Tryd.func59, Tryd.ntmps59
  go_wp2_with (first | (refine wl_build 44 #[(0, .tmp 1), (1, .tmp 2)] rfl ?hh _ _ bb ?hv ?_) | (refine wl_new 44 (.tmp 0) (.tmp 3) rfl rfl zl.beingsA nl.beingsA rfl rfl rfl ?s1 ?s2 one_beings ?_))
  case s1 => rw [size_beings]; exact (zero_of_info Tryd.zBeings).2
  case s2 => rw [size_beings, size_beings]
  refine bodyPost_ret (v := .agg nl.beingsA) (results_cell_row rfl _ _ w.heap.size 44 nl.beingsA (0, 0) _ rfl (heap_alloc_new w _) Tryd.underlying44 rfl (by rw [size_beings]; exact (zero_of_info Tryd.zBeings).2)) rfl ⟨rfl, (Below.refl _ _).alloc (Nat.le_refl _) _⟩

set_option maxRecDepth 100000 in
set_option maxHeartbeats 400000 in
theorem newThings_any (w : World) : Calls Tryd.prog 58 #[] w fun e w' => e = .returned (.agg nl.thingsA) ∧ Below w.heap.size w w' := by
  have hz := (zero_of_info Tryd.zThings).1
  go_enter Tryd.func58, Tryd.ntmps58
  go_wp2_with (first | (refine wl_build 41 #[(0, .tmp 1), (1, .tmp 2), (2, .tmp 3), (3, .tmp 4), (4, .tmp 5), (5, .tmp 6), (6, .tmp 7), (7, .tmp 8), (8, .tmp 9)] rfl ?hh _ _ bt ?hv ?_) | (refine wl_new 41 (.tmp 0) (.tmp 10) rfl rfl zl.thingsA nl.thingsA rfl rfl rfl ?s1 ?s2 one_things ?_))
  case s1 => rw [size_things]; exact (zero_of_info Tryd.zThings).2
  case s2 => rw [size_things, size_things]
  refine bodyPost_ret (v := .agg nl.thingsA) (results_cell_row rfl _ _ w.heap.size 41 nl.thingsA (0, 0) _ rfl (heap_alloc_new w _) Tryd.underlying41 rfl (by rw [size_things]; exact (zero_of_info Tryd.zThings).2)) rfl ⟨rfl, (Below.refl _ _).alloc (Nat.le_refl _) _⟩

set_option maxRecDepth 100000 in
set_option maxHeartbeats 400000 in
theorem newRooms_any (w : World) : Calls Tryd.prog 57 #[] w fun e w' => e = .returned (.agg nl.roomsA) ∧ Below w.heap.size w w' := by
  have hz := (zero_of_info Tryd.zRooms).1
  go_enter Tryd.func57, Tryd.ntmps57
  go_wp2_with (first | (refine wl_build 38 #[(0, .tmp 3), (1, .tmp 5), (2, .tmp 7), (3, .tmp 9), (4, .tmp 12), (5, .tmp 14)] rfl ?hh _ _ br ?hv ?_) | (refine wl_new 38 (.tmp 0) (.tmp 15) rfl rfl zl.roomsA nl.roomsA rfl rfl rfl ?s1 ?s2 one_rooms ?_))
  case s1 => rw [size_rooms]; exact (zero_of_info Tryd.zRooms).2
  case s2 => rw [size_rooms, size_rooms]
  refine bodyPost_ret (v := .agg nl.roomsA) (results_cell_row rfl _ _ w.heap.size 38 nl.roomsA (0, 0) _ rfl (heap_alloc_new w _) Tryd.underlying38 rfl (by rw [size_rooms]; exact (zero_of_info Tryd.zRooms).2)) rfl ⟨rfl, (Below.refl _ _).alloc (Nat.le_refl _) _⟩

end Go.Proofs.YtdembcpljjgbkadDoor
