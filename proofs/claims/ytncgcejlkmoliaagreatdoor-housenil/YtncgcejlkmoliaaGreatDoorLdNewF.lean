/-
  The land as it begins; Opposite at 1: contracts.
-/
import Derived.Test.YtncgcejlkmoliaaGreatDoorLdArm
import Derived.Laws.CopyOwn
namespace Go.Proofs.YtncgcejlkmoliaaGreatDoor
open Go.RowKit
set_option linter.unusedVariables false

def zl : Ld := {
  rname := fun _ => ⟨#[]⟩
  dark := fun _ => false
  exit := fun _ _ => 0
  shut := fun _ _ => false
  tname := fun _ => ⟨#[]⟩
  kind := fun _ => 0
  wh := fun _ => 0
  loc := fun _ => 0
  on := fun _ => false
  bname := fun _ => ⟨#[]⟩
  here := fun _ => false
  keen := fun _ => false
  room := fun _ => 0
  health := fun _ => 0
  foe := fun _ => 0 }

/-- The land as it begins. -/
def nl : Ld := {
  rname := fun r => [⟨#[104, 101, 97, 114, 116, 104]⟩, ⟨#[121, 97, 114, 100]⟩, ⟨#[112, 97, 110, 116, 114, 121]⟩, ⟨#[108, 111, 102, 116]⟩, ⟨#[99, 101, 108, 108, 97, 114]⟩, ⟨#[97, 116, 116, 105, 99]⟩].getD r ⟨#[]⟩
  dark := fun r => [false, false, true, true, true, false].getD r false
  exit := fun r d => ([[2, 3, 4, 0, 0, 5], [0, 0, 0, 1, 0, 0], [0, 0, 0, 0, 1, 0], [0, 6, 0, 0, 0, 1], [0, 0, 1, 0, 0, 0], [0, 0, 0, 0, 4, 0]].getD r []).getD d 0
  shut := fun r d => ([[false, false, false, false, false, true], [false, false, false, false, false, false], [false, false, false, false, false, false], [false, false, false, false, false, false], [false, false, true, false, false, false], [false, false, false, false, false, false]].getD r []).getD d false
  tname := fun i => [⟨#[108, 97, 109, 112]⟩, ⟨#[108, 97, 109, 112]⟩, ⟨#[99, 108, 111, 97, 107]⟩, ⟨#[99, 104, 101, 115, 116]⟩, ⟨#[99, 111, 105, 110]⟩, ⟨#[99, 111, 105, 110]⟩, ⟨#[109, 117, 103]⟩, ⟨#[98, 111, 120]⟩, ⟨#[107, 101, 121]⟩].getD i ⟨#[]⟩
  kind := fun i => [1, 1, 2, 3, 0, 0, 0, 3, 0].getD i 0
  wh := fun i => [0, 0, 0, 0, 2, 0, 0, 0, 1].getD i 0
  loc := fun i => [0, 3, 0, 4, 3, 1, 0, 0, 1].getD i 0
  on := fun i => [false, false, false, false, false, false, false, true, false].getD i false
  bname := fun b => [⟨#[99, 97, 116]⟩, ⟨#[114, 97, 116]⟩].getD b ⟨#[]⟩
  here := fun b => [true, true].getD b false
  keen := fun b => [true, false].getD b false
  room := fun b => [0, 4].getD b 0
  health := fun b => [10, 3].getD b 0
  foe := fun b => [0, 0].getD b 0 }

theorem Tryz.zLand : (Tryz.prog.info? 43).map (fun i => (i.zero, i.size)) = some (some (.agg zl.cells), 165) := by kernel_rfl
theorem Tryz.zRooms : (Tryz.prog.info? 35).map (fun i => (i.zero, i.size)) = some (some (.agg zl.roomsA), 84) := by kernel_rfl
theorem Tryz.zThings : (Tryz.prog.info? 38).map (fun i => (i.zero, i.size)) = some (some (.agg zl.thingsA), 45) := by kernel_rfl
theorem Tryz.zBeings : (Tryz.prog.info? 41).map (fun i => (i.zero, i.size)) = some (some (.agg zl.beingsA), 36) := by kernel_rfl

theorem bb : Tryz.prog.built 41 [(0, .agg #[.string ⟨#[99, 97, 116]⟩, .bool true, .bool true, .int .i64 0, .int .i64 10, .int .i64 0]), (1, .agg #[.string ⟨#[114, 97, 116]⟩, .bool true, .bool false, .int .i64 4, .int .i64 3, .int .i64 0])] = some (nl.beingsA) := by kernel_rfl
theorem bt : Tryz.prog.built 38 [(0, .agg #[.string ⟨#[108, 97, 109, 112]⟩, .int .i64 1, .int .i64 0, .int .i64 0, .bool false]), (1, .agg #[.string ⟨#[108, 97, 109, 112]⟩, .int .i64 1, .int .i64 0, .int .i64 3, .bool false]), (2, .agg #[.string ⟨#[99, 108, 111, 97, 107]⟩, .int .i64 2, .int .i64 0, .int .i64 0, .bool false]), (3, .agg #[.string ⟨#[99, 104, 101, 115, 116]⟩, .int .i64 3, .int .i64 0, .int .i64 4, .bool false]), (4, .agg #[.string ⟨#[99, 111, 105, 110]⟩, .int .i64 0, .int .i64 2, .int .i64 3, .bool false]), (5, .agg #[.string ⟨#[99, 111, 105, 110]⟩, .int .i64 0, .int .i64 0, .int .i64 1, .bool false]), (6, .agg #[.string ⟨#[109, 117, 103]⟩, .int .i64 0, .int .i64 0, .int .i64 0, .bool false]), (7, .agg #[.string ⟨#[98, 111, 120]⟩, .int .i64 3, .int .i64 0, .int .i64 0, .bool true]), (8, .agg #[.string ⟨#[107, 101, 121]⟩, .int .i64 0, .int .i64 1, .int .i64 1, .bool false])] = some (nl.thingsA) := by kernel_rfl
theorem br : Tryz.prog.built 35 [(0, .agg #[.string ⟨#[104, 101, 97, 114, 116, 104]⟩, .bool false, .int .i64 2, .int .i64 3, .int .i64 4, .int .i64 0, .int .i64 0, .int .i64 5, .bool false, .bool false, .bool false, .bool false, .bool false, .bool true]), (1, .agg #[.string ⟨#[121, 97, 114, 100]⟩, .bool false, .int .i64 0, .int .i64 0, .int .i64 0, .int .i64 1, .int .i64 0, .int .i64 0, .bool false, .bool false, .bool false, .bool false, .bool false, .bool false]), (2, .agg #[.string ⟨#[112, 97, 110, 116, 114, 121]⟩, .bool true, .int .i64 0, .int .i64 0, .int .i64 0, .int .i64 0, .int .i64 1, .int .i64 0, .bool false, .bool false, .bool false, .bool false, .bool false, .bool false]), (3, .agg #[.string ⟨#[108, 111, 102, 116]⟩, .bool true, .int .i64 0, .int .i64 6, .int .i64 0, .int .i64 0, .int .i64 0, .int .i64 1, .bool false, .bool false, .bool false, .bool false, .bool false, .bool false]), (4, .agg #[.string ⟨#[99, 101, 108, 108, 97, 114]⟩, .bool true, .int .i64 0, .int .i64 0, .int .i64 1, .int .i64 0, .int .i64 0, .int .i64 0, .bool false, .bool false, .bool true, .bool false, .bool false, .bool false]), (5, .agg #[.string ⟨#[97, 116, 116, 105, 99]⟩, .bool false, .int .i64 0, .int .i64 0, .int .i64 0, .int .i64 0, .int .i64 4, .int .i64 0, .bool false, .bool false, .bool false, .bool false, .bool false, .bool false])] = some (nl.roomsA) := by kernel_rfl
theorem bl : Tryz.prog.built 43 [(0, .agg nl.roomsA), (1, .agg nl.thingsA), (2, .agg nl.beingsA)] = some (nl.cells) := by kernel_rfl

theorem wl_build {P : Program} {ops : Array Oper} {rest : List Oper} {op : Oper} {a : Act} {w : World} {Q : Exit → Act → World → Prop} (t : TypeId) (parts : Array (Nat × Operand)) (ho : op.op = .build t parts)
    (hw : Region.wanted op (yielded ops a.tmps) = true) (vs : List (Nat × Value)) (cs : Array Value) (hb : P.built t vs = some cs) (hv : (parts.map fun (i, x) => (i, a.eval x)).toList = vs)
    (h : wpList P ops Q rest (a.put op.dst (.agg cs)) w) : wpList P ops Q (op :: rest) a w := by
  subst hv
  refine wl_wanted hw (wp_build t parts ho (by rw [hb]; rfl) ?_)
  rw [hb]; exact h

theorem one_rooms : nl.roomsA.all (·.oneCell') = true := by kernel_rfl
theorem one_things : nl.thingsA.all (·.oneCell') = true := by kernel_rfl
theorem one_beings : nl.beingsA.all (·.oneCell') = true := by kernel_rfl
theorem one_land : nl.cells.all (·.oneCell') = true := by kernel_rfl
theorem size_rooms (L : Ld) : L.roomsA.size = 84 := by simp [Ld.roomsA, Ld.size]
theorem size_things (L : Ld) : L.thingsA.size = 45 := by simp [Ld.thingsA, Ld.size]
theorem size_beings (L : Ld) : L.beingsA.size = 36 := by simp [Ld.beingsA, Ld.size]

end Go.Proofs.YtncgcejlkmoliaaGreatDoor
