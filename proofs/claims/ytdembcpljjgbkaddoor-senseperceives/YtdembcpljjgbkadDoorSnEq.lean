/-
  An event is equal to itself, as the program's == finds.
-/
import Derived.Test.YtdembcpljjgbkadDoorSnEv
import Derived.Test.YtdembcpljjgbkadDoorLdEqB
namespace Go.Proofs.YtdembcpljjgbkadDoor
open Go.RowKit
set_option linter.unusedVariables false

theorem Tryd.sizeEvInts : (Tryd.prog.info? 34).map (·.size) = some 6 := by kernel_rfl
theorem Tryd.cellsEvInt : Tryd.prog.cellsOf 3 = 1 := by kernel_rfl
theorem Tryd.infoEvInt : (Tryd.prog.info? 3).map (fun i => (i.zero, i.size, i.bytes)) = some (some (.int .i64 0), 1, 8) := by kernel_rfl

section
variable {w : World}
theorem Ev.byA_get (E : Ev) (j : Nat) (hj : j < 6) : (E.cells.extract 10 (10 + 6))[j]? = some (.int .i64 (E.by' j)) := by
  match j, hj with
  | 0, _ => rfl
  | 1, _ => rfl
  | 2, _ => rfl
  | 3, _ => rfl
  | 4, _ => rfl
  | 5, _ => rfl
theorem eqEvent (E : Ev) (w : World) : (Op.equalIn 10000 48 (.agg E.cells) (.agg E.cells)).run Tryd.prog w = .ok true w := by
  have hf : Tryd.prog.underlying 48 = some (.struct (Tryd.prog.fieldsOf 48)) := by simp [Program.fieldsOf, Tryd.underlying48]
  rw [run_equalIn_struct w 9999 48 _ _ hf (by kernel_rfl)]
  refine eq_fields _ ?_
  simp only [Program.fieldsOf, Tryd.underlying48]
  intro f hfm
  simp at hfm
  rcases hfm with rfl | rfl | rfl | rfl | rfl | rfl | rfl | rfl | rfl | rfl | rfl
  iterate 6 (exact ⟨_, part1 3 _ Tryd.underlying3 rfl _ _ _ rfl, eqi _ _⟩)
  iterate 4 (exact ⟨_, part1 9 _ Tryd.underlying9 rfl _ _ _ rfl, eqs _ _⟩)
  refine ⟨_, part_agg Tryd.underlying34 rfl Tryd.sizeEvInts _ 10, ?_⟩
  obtain ⟨i0, hi, _, _, _⟩ := info_parts Tryd.infoEvInt
  show (Op.equalIn 9999 34 (.agg (E.cells.extract 10 (10 + 6))) (.agg (E.cells.extract 10 (10 + 6)))).run Tryd.prog w = _
  rw [run_equalIn_array (P := Tryd.prog) w 9998 _ _ Tryd.underlying34 hi, Tryd.cellsEvInt]
  refine eq_items _ fun j hj => ⟨_, ?_, eqi 9997 (E.by' j)⟩
  rw [Nat.mul_one]
  exact part1 3 _ Tryd.underlying3 rfl j _ _ (E.byA_get j (by simpa using hj))
theorem Tryd.guardEvent : Tryd.prog.eqGuardType Tryd.prog.depth 48 = false := by kernel_rfl
theorem eql_event (E : Ev) (w : World) : (binOp .eql 48 (.agg E.cells) (.agg E.cells)).run Tryd.prog w = .ok (.bool true) w := by
  rw [run_eql_struct]
  show ((Op.equalIn 10000 48 (.agg E.cells) (.agg E.cells)).run Tryd.prog w).andThen _ = _
  rw [eqEvent]; rfl
theorem guard_event (E : Ev) (x y : Operand) (w : World) : (eqGuard .eql 48 x y (.agg E.cells) (.agg E.cells)).run Tryd.prog w = .ok () w := by
  have hg := Tryd.guardEvent
  simp [eqGuard, hg]
/-- Events are held against each other, wherever the walk stands. -/
theorem exec_eqev {a : Act} {op : Oper} {w : World} (x y : Operand) (t : TypeId) (ho : op.op = .binOp .eql 48 x y t) {E : Ev} (hx : a.eval x = .agg E.cells) (hy : a.eval y = .agg E.cells) : (execOp a.eval op).run Tryd.prog w = .ok (.value (.bool true)) w := by
  unfold execOp
  simp only [ho, hx, hy, Sem.run_bind, guard_event, eql_event, Result.andThen_ok, Sem.run_pure]
end
end Go.Proofs.YtdembcpljjgbkadDoor
