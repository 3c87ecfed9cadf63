/-
  The document's own TellOf: how it ends.
-/
import Derived.Test.YtdembcpljjgbkadDoorSnTkL
namespace Go.Proofs.YtdembcpljjgbkadDoor
open Go.RowKit
set_option linter.unusedVariables false

theorem ret_line {E : Ev} {b : Int} {l : List UInt8} {X : ByteArray} (h : tellL E b = some l) (hx : X = bs l) : Ending.returned (.tuple #[.string X, .bool true]) = .returned (tellA (tellL E b)) := by rw [h, hx]; rfl
theorem ret_noline {E : Ev} {b : Int} (h : tellL E b = none) : Ending.returned (.tuple #[.string ⟨#[]⟩, .bool false]) = .returned (tellA (tellL E b)) := by rw [h]; rfl

end Go.Proofs.YtdembcpljjgbkadDoor
