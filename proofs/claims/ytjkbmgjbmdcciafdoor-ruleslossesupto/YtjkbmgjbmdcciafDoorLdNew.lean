/-
  The land as it begins; Opposite at 1: contracts.
-/
import Derived.Test.YtjkbmgjbmdcciafDoorLdNewF
namespace Go.Proofs.YtjkbmgjbmdcciafDoor
open Go.RowKit
set_option linter.unusedVariables false

set_option maxRecDepth 100000 in
set_option maxHeartbeats 400000 in
theorem newBeings_any (w : World) : Calls Tryd.prog 42 #[] w fun e w' => e = .returned (.agg nl.beingsA) ∧ Below w.heap.size w w' := by
  have hz := (zero_of_info Tryd.zBeings).1
  go_enter Tryd.func42, Tryd.ntmps42
  go_wp2_with (first | (refine wl_build 32 #[(0, .tmp 1), (1, .tmp 2)] rfl ?hh _ _ bb ?hv ?_) | (refine wl_new 32 (.tmp 0) (.tmp 3) rfl rfl zl.beingsA nl.beingsA rfl rfl rfl ?s1 ?s2 one_beings ?_))
  case s1 => rw [size_beings]; exact (zero_of_info Tryd.zBeings).2
  case s2 => rw [size_beings, size_beings]
  refine bodyPost_ret (v := .agg nl.beingsA) (results_cell_row rfl _ _ w.heap.size 32 nl.beingsA (0, 0) _ rfl (heap_alloc_new w _) Tryd.underlying32 rfl (by rw [size_beings]; exact (zero_of_info Tryd.zBeings).2)) rfl ⟨rfl, (Below.refl _ _).alloc (Nat.le_refl _) _⟩

set_option maxRecDepth 100000 in
set_option maxHeartbeats 400000 in
theorem newThings_any (w : World) : Calls Tryd.prog 41 #[] w fun e w' => e = .returned (.agg nl.thingsA) ∧ Below w.heap.size w w' := by
  have hz := (zero_of_info Tryd.zThings).1
  go_enter Tryd.func41, Tryd.ntmps41
  go_wp2_with (first | (refine wl_build 29 #[(0, .tmp 1), (1, .tmp 2), (2, .tmp 3), (3, .tmp 4), (4, .tmp 5), (5, .tmp 6), (6, .tmp 7), (7, .tmp 8), (8, .tmp 9)] rfl ?hh _ _ bt ?hv ?_) | (refine wl_new 29 (.tmp 0) (.tmp 10) rfl rfl zl.thingsA nl.thingsA rfl rfl rfl ?s1 ?s2 one_things ?_))
  case s1 => rw [size_things]; exact (zero_of_info Tryd.zThings).2
  case s2 => rw [size_things, size_things]
  refine bodyPost_ret (v := .agg nl.thingsA) (results_cell_row rfl _ _ w.heap.size 29 nl.thingsA (0, 0) _ rfl (heap_alloc_new w _) Tryd.underlying29 rfl (by rw [size_things]; exact (zero_of_info Tryd.zThings).2)) rfl ⟨rfl, (Below.refl _ _).alloc (Nat.le_refl _) _⟩

set_option maxRecDepth 100000 in
set_option maxHeartbeats 400000 in
theorem newRooms_any (w : World) : Calls Tryd.prog 40 #[] w fun e w' => e = .returned (.agg nl.roomsA) ∧ Below w.heap.size w w' := by
  have hz := (zero_of_info Tryd.zRooms).1
  go_enter Tryd.func40, Tryd.ntmps40
  go_wp2_with (first | (refine wl_build 26 #[(0, .tmp 3), (1, .tmp 5), (2, .tmp 7), (3, .tmp 9), (4, .tmp 12), (5, .tmp 14)] rfl ?hh _ _ br ?hv ?_) | (refine wl_new 26 (.tmp 0) (.tmp 15) rfl rfl zl.roomsA nl.roomsA rfl rfl rfl ?s1 ?s2 one_rooms ?_))
  case s1 => rw [size_rooms]; exact (zero_of_info Tryd.zRooms).2
  case s2 => rw [size_rooms, size_rooms]
  refine bodyPost_ret (v := .agg nl.roomsA) (results_cell_row rfl _ _ w.heap.size 26 nl.roomsA (0, 0) _ rfl (heap_alloc_new w _) Tryd.underlying26 rfl (by rw [size_rooms]; exact (zero_of_info Tryd.zRooms).2)) rfl ⟨rfl, (Below.refl _ _).alloc (Nat.le_refl _) _⟩

end Go.Proofs.YtjkbmgjbmdcciafDoor
