/-
  A region whose order is drawn, taken operation by operation.
-/
import Derived.Test.YtjkbmgjbmdcciafDoorMgB
import Derived.Deep.RegionHeld3
namespace Go.Proofs.YtjkbmgjbmdcciafDoor
open Go.RowKit
set_option linter.unusedVariables false

/-- An operation is taken first; the slot that it writes is told. -/
theorem take_at {P : Program} {md : Region.Mode} {ops : Array Oper} {Q : Exit → Act → World → Prop} {S : World → Prop} {i : Nat} {d : Option Tmp} {oi : Oper} {v : Value} {fuel : Nat} {listed : Array Bool} {a : Act} {w : World} (hi : ops[i]? = some oi) (hd : oi.dst = d)
    (hs : Region.noSelect ops = true) (hf : Region.free md ops listed i = true) (hr : (Region.ready md ops listed).contains i = true)
    (hQ : ∀ c a w, Q (.panic c) (a.put oi.dst v) w → Q (.panic c) a w) (hy : YieldsIf P ops S oi v a) (hS : S w)
    (h : wpAnyH P md ops Q S fuel (listed.setIfInBounds i true) (a.put d v) w) : wpAnyH P md ops Q S (fuel + 1) listed a w := by
  subst hd
  exact wpAnyH_take hi hs hf hr hQ hy hS h

/-- A call of a Go function, by its contract. -/
theorem call_at {P : Program} {ops : Array Oper} {Q : Exit → Act → World → Prop} {i : Nat} {d : Option Tmp} {oi : Oper} {a : Act} {w : World} {K : Act → World → Prop} (hi : ops[i]? = some oi) (hd : oi.dst = d) (hw : Region.wanted oi (yielded ops a.tmps) = true)
    (f : FuncId) (args : Array Value) (hrun : (execOp a.eval oi).run P w = .ok (.enter f args) w) (hc : Calls P f args w fun e w' => ∃ v, e = .returned v ∧ K (a.put d v) w') : wpOp P ops Q i K a w := by
  subst hd
  unfold wpOp
  rw [hi]
  simp only
  rw [if_pos hw]
  refine .inl ?_
  unfold Oper.wp
  rw [hrun, Oper.upon_enter]
  refine hc.mono fun e w' hh => ?_
  obtain ⟨v, rfl, h⟩ := hh
  exact h

/-- The whole land is read, wherever the walk stands. -/
theorem exec_land {a : Act} {op : Oper} {w : World} (x : Operand) (ho : op.op = .load 34 x) (b : Nat) (hx : a.eval x = .pointer (some ⟨b, 0, none⟩)) {L : Ld} (hc : Cod w b L) : (execOp a.eval op).run Tryd.prog w = .ok (.value (.agg L.cells)) w := by
  unfold execOp
  simp only [ho, hx, Sem.run_bind, hc.load, Result.andThen_ok, Sem.run_pure]

/-- The whole event is read, wherever the walk stands. -/
theorem exec_event {a : Act} {op : Oper} {w : World} (x : Operand) (ho : op.op = .load 43 x) (b : Nat) (hx : a.eval x = .pointer (some ⟨b, 0, none⟩)) {E : Ev} (hc : Cev w b E) : (execOp a.eval op).run Tryd.prog w = .ok (.value (.agg E.cells)) w := by
  have hl : (Instr.loadAt 43 (.pointer (some ⟨b, 0, none⟩))).run Tryd.prog w = .ok (.agg E.cells) w := by
    simp only [Instr.loadAt, Instr.sureAddr, Sem.run_bind, Sem.run_pure, Result.andThen_ok]
    exact run_loadVar_row w b 43 43 E.cells (0, 0) _ hc Tryd.underlying43 rfl (by rw [E.size]; exact Tryd.sizeEvent)
  unfold execOp
  simp only [ho, hx, Sem.run_bind, hl, Result.andThen_ok, Sem.run_pure]
end Go.Proofs.YtjkbmgjbmdcciafDoor
