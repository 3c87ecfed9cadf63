/-
  The cells of the row HouseNil: what the function reaches, as the program says it.
-/
import Derived.Test.YtncgcejlkmoliaaGreatDoorRows
import Derived.Test.YtncgcejlkmoliaaGreatDoorBsOpen
namespace Go.Proofs.YtncgcejlkmoliaaGreatDoor.houseNil
open Go.ChangeShapes Go.WideShapes Go.ChangeAt Go.RowKit
set_option linter.unusedVariables false

/-! ### The row's cells, each by itself: together they want more memory than there is. -/
theorem c_place : (Rows.houseNilRow.inPlace == Tryz.prog.inPlace 3) = true := by kernel_rfl
theorem c_unf : (Rows.houseNilRow.unfollowed == Tryz.prog.unfollowed 3) = true := by kernel_rfl
theorem c_rec : (Rows.houseNilRow.recurses == Tryz.prog.recurses 3) = true := by kernel_rfl
theorem c_named : (Rows.houseNilRow.named == Tryz.prog.varsNamed 3) = true := by kernel_rfl
theorem c_tie : namedTie Tryz.prog Rows.houseNilRow.named Rows.houseNilSpec.vars = true := by kernel_rfl
theorem c_enter : Tryz.prog.mayEnter = true := by kernel_rfl
theorem c_lift : (Rows.houseNilRow.lifted == Tryz.prog.liftsFinal) = true := by kernel_rfl
theorem c_heard : Tryz.prog.stopsHeard = true := by kernel_rfl
theorem closed : joinedFacts Tryz.prog 3 Tryz.f3 Rows.houseNilSpec Rows.houseNilRow = true := by
  unfold joinedFacts
  rw [c_place, c_unf, c_rec, c_named, c_tie, c_enter, c_lift, c_heard, Tryz.laidOut]
  kernel_rfl

end Go.Proofs.YtncgcejlkmoliaaGreatDoor.houseNil
