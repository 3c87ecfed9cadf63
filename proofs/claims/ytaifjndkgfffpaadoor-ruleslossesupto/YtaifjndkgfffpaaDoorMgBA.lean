/-
  The land as it begins; Opposite at 1: contracts.
-/
import Derived.Test.YtaifjndkgfffpaaDoorMgAE
import Derived.Laws.CopyOwn
namespace Go.Proofs.YtaifjndkgfffpaaDoor
open Go.RowKit
set_option linter.unusedVariables false

def zl : Ld := {
  rname := fun _ => ⟨#[]⟩
  dark := fun _ => false
  exit := fun _ _ => 0
  shut := fun _ _ => false
  tname := fun _ => ⟨#[]⟩
  kind := fun _ => 0
  wh := fun _ => 0
  loc := fun _ => 0
  on := fun _ => false
  bname := fun _ => ⟨#[]⟩
  here := fun _ => false
  keen := fun _ => false
  room := fun _ => 0
  health := fun _ => 0
  foe := fun _ => 0 }

/-- The land as it begins. -/
def nl : Ld := {
  rname := fun r => [⟨#[104, 101, 97, 114, 116, 104]⟩, ⟨#[121, 97, 114, 100]⟩, ⟨#[112, 97, 110, 116, 114, 121]⟩, ⟨#[108, 111, 102, 116]⟩, ⟨#[99, 101, 108, 108, 97, 114]⟩, ⟨#[97, 116, 116, 105, 99]⟩].getD r ⟨#[]⟩
  dark := fun r => [false, false, true, true, true, false].getD r false
  exit := fun r d => ([[2, 3, 4, 0, 0, 5], [0, 0, 0, 1, 0, 0], [0, 0, 0, 0, 1, 0], [0, 6, 0, 0, 0, 1], [0, 0, 1, 0, 0, 0], [0, 0, 0, 0, 4, 0]].getD r []).getD d 0
  shut := fun r d => ([[false, false, false, false, false, true], [false, false, false, false, false, false], [false, false, false, false, false, false], [false, false, false, false, false, false], [false, false, true, false, false, false], [false, false, false, false, false, false]].getD r []).getD d false
  tname := fun i => [⟨#[108, 97, 109, 112]⟩, ⟨#[108, 97, 109, 112]⟩, ⟨#[99, 108, 111, 97, 107]⟩, ⟨#[99, 104, 101, 115, 116]⟩, ⟨#[99, 111, 105, 110]⟩, ⟨#[99, 111, 105, 110]⟩, ⟨#[109, 117, 103]⟩, ⟨#[98, 111, 120]⟩, ⟨#[107, 101, 121]⟩].getD i ⟨#[]⟩
  kind := fun i => [1, 1, 2, 3, 0, 0, 0, 3, 0].getD i 0
  wh := fun i => [0, 0, 0, 0, 2, 0, 0, 0, 1].getD i 0
  loc := fun i => [0, 3, 0, 4, 3, 1, 0, 0, 1].getD i 0
  on := fun i => [false, false, false, false, false, false, false, true, false].getD i false
  bname := fun b => [⟨#[99, 97, 116]⟩, ⟨#[114, 97, 116]⟩].getD b ⟨#[]⟩
  here := fun b => [true, true].getD b false
  keen := fun b => [true, false].getD b false
  room := fun b => [0, 4].getD b 0
  health := fun b => [10, 3].getD b 0
  foe := fun b => [0, 0].getD b 0 }

theorem Tryd.zLand : (Tryd.prog.info? 34).map (fun i => (i.zero, i.size)) = some (some (.agg zl.cells), 165) := by kernel_rfl
theorem Tryd.zRooms : (Tryd.prog.info? 26).map (fun i => (i.zero, i.size)) = some (some (.agg zl.roomsA), 84) := by kernel_rfl
theorem Tryd.zThings : (Tryd.prog.info? 29).map (fun i => (i.zero, i.size)) = some (some (.agg zl.thingsA), 45) := by kernel_rfl
theorem Tryd.zBeings : (Tryd.prog.info? 32).map (fun i => (i.zero, i.size)) = some (some (.agg zl.beingsA), 36) := by kernel_rfl

theorem bb : Tryd.prog.built 32 [(0, .agg #[.string ⟨#[99, 97, 116]⟩, .bool true, .bool true, .int .i64 0, .int .i64 10, .int .i64 0]), (1, .agg #[.string ⟨#[114, 97, 116]⟩, .bool true, .bool false, .int .i64 4, .int .i64 3, .int .i64 0])] = some (nl.beingsA) := by kernel_rfl
theorem bt : Tryd.prog.built 29 [(0, .agg #[.string ⟨#[108, 97, 109, 112]⟩, .int .i64 1, .int .i64 0, .int .i64 0, .bool false]), (1, .agg #[.string ⟨#[108, 97, 109, 112]⟩, .int .i64 1, .int .i64 0, .int .i64 3, .bool false]), (2, .agg #[.string ⟨#[99, 108, 111, 97, 107]⟩, .int .i64 2, .int .i64 0, .int .i64 0, .bool false]), (3, .agg #[.string ⟨#[99, 104, 101, 115, 116]⟩, .int .i64 3, .int .i64 0, .int .i64 4, .bool false]), (4, .agg #[.string ⟨#[99, 111, 105, 110]⟩, .int .i64 0, .int .i64 2, .int .i64 3, .bool false]), (5, .agg #[.string ⟨#[99, 111, 105, 110]⟩, .int .i64 0, .int .i64 0, .int .i64 1, .bool false]), (6, .agg #[.string ⟨#[109, 117, 103]⟩, .int .i64 0, .int .i64 0, .int .i64 0, .bool false]), (7, .agg #[.string ⟨#[98, 111, 120]⟩, .int .i64 3, .int .i64 0, .int .i64 0, .bool true]), (8, .agg #[.string ⟨#[107, 101, 121]⟩, .int .i64 0, .int .i64 1, .int .i64 1, .bool false])] = some (nl.thingsA) := by kernel_rfl
theorem br : Tryd.prog.built 26 [(0, .agg #[.string ⟨#[104, 101, 97, 114, 116, 104]⟩, .bool false, .int .i64 2, .int .i64 3, .int .i64 4, .int .i64 0, .int .i64 0, .int .i64 5, .bool false, .bool false, .bool false, .bool false, .bool false, .bool true]), (1, .agg #[.string ⟨#[121, 97, 114, 100]⟩, .bool false, .int .i64 0, .int .i64 0, .int .i64 0, .int .i64 1, .int .i64 0, .int .i64 0, .bool false, .bool false, .bool false, .bool false, .bool false, .bool false]), (2, .agg #[.string ⟨#[112, 97, 110, 116, 114, 121]⟩, .bool true, .int .i64 0, .int .i64 0, .int .i64 0, .int .i64 0, .int .i64 1, .int .i64 0, .bool false, .bool false, .bool false, .bool false, .bool false, .bool false]), (3, .agg #[.string ⟨#[108, 111, 102, 116]⟩, .bool true, .int .i64 0, .int .i64 6, .int .i64 0, .int .i64 0, .int .i64 0, .int .i64 1, .bool false, .bool false, .bool false, .bool false, .bool false, .bool false]), (4, .agg #[.string ⟨#[99, 101, 108, 108, 97, 114]⟩, .bool true, .int .i64 0, .int .i64 0, .int .i64 1, .int .i64 0, .int .i64 0, .int .i64 0, .bool false, .bool false, .bool true, .bool false, .bool false, .bool false]), (5, .agg #[.string ⟨#[97, 116, 116, 105, 99]⟩, .bool false, .int .i64 0, .int .i64 0, .int .i64 0, .int .i64 0, .int .i64 4, .int .i64 0, .bool false, .bool false, .bool false, .bool false, .bool false, .bool false])] = some (nl.roomsA) := by kernel_rfl
theorem bl : Tryd.prog.built 34 [(0, .agg nl.roomsA), (1, .agg nl.thingsA), (2, .agg nl.beingsA)] = some (nl.cells) := by kernel_rfl

theorem wl_build {P : Program} {ops : Array Oper} {rest : List Oper} {op : Oper} {a : Act} {w : World} {Q : Exit → Act → World → Prop} (t : TypeId) (parts : Array (Nat × Operand)) (ho : op.op = .build t parts)
    (hw : Region.wanted op (yielded ops a.tmps) = true) (vs : List (Nat × Value)) (cs : Array Value) (hb : P.built t vs = some cs) (hv : (parts.map fun (i, x) => (i, a.eval x)).toList = vs)
    (h : wpList P ops Q rest (a.put op.dst (.agg cs)) w) : wpList P ops Q (op :: rest) a w := by
  subst hv
  refine wl_wanted hw (wp_build t parts ho (by rw [hb]; rfl) ?_)
  rw [hb]; exact h

theorem one_rooms : nl.roomsA.all (·.oneCell') = true := by kernel_rfl
theorem one_things : nl.thingsA.all (·.oneCell') = true := by kernel_rfl
theorem one_beings : nl.beingsA.all (·.oneCell') = true := by kernel_rfl
theorem one_land : nl.cells.all (·.oneCell') = true := by kernel_rfl
theorem size_rooms (L : Ld) : L.roomsA.size = 84 := by simp [Ld.roomsA, Ld.size]
theorem size_things (L : Ld) : L.thingsA.size = 45 := by simp [Ld.thingsA, Ld.size]
theorem size_beings (L : Ld) : L.beingsA.size = 36 := by simp [Ld.beingsA, Ld.size]

end Go.Proofs.YtaifjndkgfffpaaDoor
/-
  The land as it begins; Opposite at 1: contracts.
-/
namespace Go.Proofs.YtaifjndkgfffpaaDoor
open Go.RowKit
set_option linter.unusedVariables false

set_option maxRecDepth 100000 in
set_option maxHeartbeats 400000 in
theorem newBeings_any (w : World) : Calls Tryd.prog 54 #[] w fun e w' => e = .returned (.agg nl.beingsA) ∧ Below w.heap.size w w' := by
  have hz := (zero_of_info Tryd.zBeings).1
  go_enter Tryd.func54, Tryd.ntmps54
  go_wp2_with (first | (refine wl_build 32 #[(0, .tmp 1), (1, .tmp 2)] rfl ?hh _ _ bb ?hv ?_) | (refine wl_new 32 (.tmp 0) (.tmp 3) rfl rfl zl.beingsA nl.beingsA rfl rfl rfl ?s1 ?s2 one_beings ?_))
  case s1 => rw [size_beings]; exact (zero_of_info Tryd.zBeings).2
  case s2 => rw [size_beings, size_beings]
  refine bodyPost_ret (v := .agg nl.beingsA) (results_cell_row rfl _ _ w.heap.size 32 nl.beingsA (0, 0) _ rfl (heap_alloc_new w _) Tryd.underlying32 rfl (by rw [size_beings]; exact (zero_of_info Tryd.zBeings).2)) rfl ⟨rfl, (Below.refl _ _).alloc (Nat.le_refl _) _⟩

set_option maxRecDepth 100000 in
set_option maxHeartbeats 400000 in
theorem newThings_any (w : World) : Calls Tryd.prog 53 #[] w fun e w' => e = .returned (.agg nl.thingsA) ∧ Below w.heap.size w w' := by
  have hz := (zero_of_info Tryd.zThings).1
  go_enter Tryd.func53, Tryd.ntmps53
  go_wp2_with (first | (refine wl_build 29 #[(0, .tmp 1), (1, .tmp 2), (2, .tmp 3), (3, .tmp 4), (4, .tmp 5), (5, .tmp 6), (6, .tmp 7), (7, .tmp 8), (8, .tmp 9)] rfl ?hh _ _ bt ?hv ?_) | (refine wl_new 29 (.tmp 0) (.tmp 10) rfl rfl zl.thingsA nl.thingsA rfl rfl rfl ?s1 ?s2 one_things ?_))
  case s1 => rw [size_things]; exact (zero_of_info Tryd.zThings).2
  case s2 => rw [size_things, size_things]
  refine bodyPost_ret (v := .agg nl.thingsA) (results_cell_row rfl _ _ w.heap.size 29 nl.thingsA (0, 0) _ rfl (heap_alloc_new w _) Tryd.underlying29 rfl (by rw [size_things]; exact (zero_of_info Tryd.zThings).2)) rfl ⟨rfl, (Below.refl _ _).alloc (Nat.le_refl _) _⟩

set_option maxRecDepth 100000 in
set_option maxHeartbeats 400000 in
theorem newRooms_any (w : World) : Calls Tryd.prog 52 #[] w fun e w' => e = .returned (.agg nl.roomsA) ∧ Below w.heap.size w w' := by
  have hz := (zero_of_info Tryd.zRooms).1
  go_enter Tryd.func52, Tryd.ntmps52
  go_wp2_with (first | (refine wl_build 26 #[(0, .tmp 3), (1, .tmp 5), (2, .tmp 7), (3, .tmp 9), (4, .tmp 12), (5, .tmp 14)] rfl ?hh _ _ br ?hv ?_) | (refine wl_new 26 (.tmp 0) (.tmp 15) rfl rfl zl.roomsA nl.roomsA rfl rfl rfl ?s1 ?s2 one_rooms ?_))
  case s1 => rw [size_rooms]; exact (zero_of_info Tryd.zRooms).2
  case s2 => rw [size_rooms, size_rooms]
  refine bodyPost_ret (v := .agg nl.roomsA) (results_cell_row rfl _ _ w.heap.size 26 nl.roomsA (0, 0) _ rfl (heap_alloc_new w _) Tryd.underlying26 rfl (by rw [size_rooms]; exact (zero_of_info Tryd.zRooms).2)) rfl ⟨rfl, (Below.refl _ _).alloc (Nat.le_refl _) _⟩

end Go.Proofs.YtaifjndkgfffpaaDoor
/-
  New: its contract.
-/
namespace Go.Proofs.YtaifjndkgfffpaaDoor
open Go.RowKit
set_option linter.unusedVariables false

set_option maxRecDepth 100000 in
set_option maxHeartbeats 400000 in
theorem new_any (w : World) : Calls Tryd.prog 28 #[] w fun e w' => e = .returned (.agg nl.cells) ∧ Below w.heap.size w w' := by
  have hz := (zero_of_info Tryd.zLand).1
  go_enter Tryd.func28, Tryd.ntmps28
  go_wp2_with fail
  refine (newRooms_any _).mono ?_
  rintro e w1 ⟨rfl, hb1⟩
  have c1 : Cod w1 w.heap.size zl := (cod_new w zl).behind hb1 (Nat.le_refl _)
  have l1 : Below w.heap.size w w1 := ((Below.refl w.heap.size w).alloc (Nat.le_refl _) _).trans (hb1.mono (by simp))
  clear hb1
  go_wp2_with fail
  refine (newThings_any _).mono ?_
  rintro e w2 ⟨rfl, hb2⟩
  have c2 : Cod w2 w.heap.size zl := c1.behind hb2 (Nat.le_refl _)
  have l2 : Below w.heap.size w w2 := l1.trans (hb2.mono l1.size)
  clear hb2 c1 l1
  go_wp2_with fail
  refine (newBeings_any _).mono ?_
  rintro e w3 ⟨rfl, hb3⟩
  have c3 : Cod w3 w.heap.size zl := c2.behind hb3 (Nat.le_refl _)
  have l3 : Below w.heap.size w w3 := l2.trans (hb3.mono l2.size)
  clear hb3 c2 l2
  go_wp2_with (first | (refine wl_build 34 #[(0, .tmp 1), (1, .tmp 2), (2, .tmp 3)] rfl ?hh _ _ bl ?hv ?_) | (refine wl_row 34 (.tmp 0) (.tmp 4) rfl rfl w.heap.size nl.cells rfl rfl 34 zl.cells c3 ?s1 ?s2 one_land ?_))
  case s1 => rw [Ld.size]; exact (zero_of_info Tryd.zLand).2
  case s2 => rw [Ld.size, Ld.size]
  refine bodyPost_ret (v := .agg nl.cells) (results_cell_row rfl _ _ w.heap.size 34 nl.cells (0, 0) _ rfl (setRow_heap w3 w.heap.size _ _ _ _ c3) Tryd.underlying34 rfl (by rw [Ld.size]; exact (zero_of_info Tryd.zLand).2)) rfl ⟨rfl, below_setRow l3 (Nat.le_refl _) _⟩

end Go.Proofs.YtaifjndkgfffpaaDoor
