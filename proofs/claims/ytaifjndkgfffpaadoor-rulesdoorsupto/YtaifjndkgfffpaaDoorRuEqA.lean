/-
  All things, and all rooms, of a land are equal to themselves, as the program's == finds; they are read wherever the walk stands.
-/
import Derived.Test.YtaifjndkgfffpaaDoorMgBO
import Derived.Test.YtaifjndkgfffpaaDoorMgAU
namespace Go.Proofs.YtaifjndkgfffpaaDoor
open Go.RowKit
set_option linter.unusedVariables false

theorem eqThingsA (L : Ld) (w : World) : (Op.equalIn 10000 29 (.agg L.thingsA) (.agg L.thingsA)).run Tryd.prog w = .ok true w := by
  obtain ⟨i0, hi⟩ := info_of_underlying Tryd.underlying28
  rw [run_equalIn_array (P := Tryd.prog) w 9999 _ _ Tryd.underlying29 hi, Tryd.cellsOfThing]
  refine eq_items _ fun k hk => ⟨_, part_agg Tryd.underlying28 rfl Tryd.sizeThing _ _, ?_⟩
  rw [L.things_at k (by simpa using hk)]
  exact eqThing L k 9997
theorem eqRoomsA (L : Ld) (w : World) : (Op.equalIn 10000 26 (.agg L.roomsA) (.agg L.roomsA)).run Tryd.prog w = .ok true w := by
  obtain ⟨i0, hi⟩ := info_of_underlying Tryd.underlying25
  rw [run_equalIn_array (P := Tryd.prog) w 9999 _ _ Tryd.underlying26 hi, Tryd.cellsOfRoom]
  refine eq_items _ fun k hk => ⟨_, part_agg Tryd.underlying25 rfl Tryd.sizeRoom _ _, ?_⟩
  rw [L.rooms_at k (by simpa using hk)]
  exact eqRoom L k 9996
theorem Tryd.guardThings : Tryd.prog.eqGuardType Tryd.prog.depth 29 = false := by kernel_rfl
theorem Tryd.guardRooms : Tryd.prog.eqGuardType Tryd.prog.depth 26 = false := by kernel_rfl
theorem Tryd.guardLand : Tryd.prog.eqGuardType Tryd.prog.depth 34 = false := by kernel_rfl
theorem exec_eqthings {a : Act} {op : Oper} {w : World} (x y : Operand) (t : TypeId) (ho : op.op = .binOp .eql 29 x y t) {L : Ld} (hx : a.eval x = .agg L.thingsA) (hy : a.eval y = .agg L.thingsA) : (execOp a.eval op).run Tryd.prog w = .ok (.value (.bool true)) w := by
  have hg : (eqGuard .eql 29 x y (.agg L.thingsA) (.agg L.thingsA)).run Tryd.prog w = .ok () w := by
    have hg := Tryd.guardThings
    simp [eqGuard, hg]
  have he : (binOp .eql 29 (.agg L.thingsA) (.agg L.thingsA)).run Tryd.prog w = .ok (.bool true) w := by
    rw [run_eql_struct]
    show ((Op.equalIn 10000 29 (.agg L.thingsA) (.agg L.thingsA)).run Tryd.prog w).andThen _ = _
    rw [eqThingsA]; rfl
  unfold execOp
  simp only [ho, hx, hy, Sem.run_bind, hg, he, Result.andThen_ok, Sem.run_pure]
theorem exec_eqrooms {a : Act} {op : Oper} {w : World} (x y : Operand) (t : TypeId) (ho : op.op = .binOp .eql 26 x y t) {L : Ld} (hx : a.eval x = .agg L.roomsA) (hy : a.eval y = .agg L.roomsA) : (execOp a.eval op).run Tryd.prog w = .ok (.value (.bool true)) w := by
  have hg : (eqGuard .eql 26 x y (.agg L.roomsA) (.agg L.roomsA)).run Tryd.prog w = .ok () w := by
    have hg := Tryd.guardRooms
    simp [eqGuard, hg]
  have he : (binOp .eql 26 (.agg L.roomsA) (.agg L.roomsA)).run Tryd.prog w = .ok (.bool true) w := by
    rw [run_eql_struct]
    show ((Op.equalIn 10000 26 (.agg L.roomsA) (.agg L.roomsA)).run Tryd.prog w).andThen _ = _
    rw [eqRoomsA]; rfl
  unfold execOp
  simp only [ho, hx, hy, Sem.run_bind, hg, he, Result.andThen_ok, Sem.run_pure]
theorem exec_eqland {a : Act} {op : Oper} {w : World} (x y : Operand) (t : TypeId) (ho : op.op = .binOp .eql 34 x y t) {L : Ld} (hx : a.eval x = .agg L.cells) (hy : a.eval y = .agg L.cells) : (execOp a.eval op).run Tryd.prog w = .ok (.value (.bool true)) w := by
  have hg : (eqGuard .eql 34 x y (.agg L.cells) (.agg L.cells)).run Tryd.prog w = .ok () w := by
    have hg := Tryd.guardLand
    simp [eqGuard, hg]
  have he : (binOp .eql 34 (.agg L.cells) (.agg L.cells)).run Tryd.prog w = .ok (.bool true) w := by
    rw [run_eql_struct]
    show ((Op.equalIn 10000 34 (.agg L.cells) (.agg L.cells)).run Tryd.prog w).andThen _ = _
    rw [eqLand]; rfl
  unfold execOp
  simp only [ho, hx, hy, Sem.run_bind, hg, he, Result.andThen_ok, Sem.run_pure]
theorem exec_things {a : Act} {op : Oper} {w : World} {L : Ld} {A : Array Value} (he : L.thingsA = A) (x : Operand) (ho : op.op = .load 29 x) (b : Nat) (hx : a.eval x = .pointer (some ⟨b, 84, none⟩)) (hc : Cod w b L) : (execOp a.eval op).run Tryd.prog w = .ok (.value (.agg A)) w := by
  subst he
  have := run_loadVar_mid (P := Tryd.prog) w b 84 29 L.thingsA.toList _ hc.thingsR Tryd.underlying29 rfl (by rw [Array.length_toList]; unfold Ld.thingsA; rw [Array.size_extract, L.size]; exact Tryd.sizeThings)
  rw [Array.toArray_toList] at this
  unfold execOp
  simp only [ho, hx, Instr.loadAt, Instr.sureAddr, Sem.run_bind, Sem.run_pure, Result.andThen_ok, this]
theorem exec_rooms {a : Act} {op : Oper} {w : World} {L : Ld} {A : Array Value} (he : L.roomsA = A) (x : Operand) (ho : op.op = .load 26 x) (b : Nat) (hx : a.eval x = .pointer (some ⟨b, 0, none⟩)) (hc : Cod w b L) : (execOp a.eval op).run Tryd.prog w = .ok (.value (.agg A)) w := by
  subst he
  have := run_loadVar_mid (P := Tryd.prog) w b 0 26 L.roomsA.toList _ hc.roomsR Tryd.underlying26 rfl (by rw [Array.length_toList]; unfold Ld.roomsA; rw [Array.size_extract, L.size]; exact Tryd.sizeRooms)
  rw [Array.toArray_toList] at this
  unfold execOp
  simp only [ho, hx, Instr.loadAt, Instr.sureAddr, Sem.run_bind, Sem.run_pure, Result.andThen_ok, this]
/-- Two lands that differ in beings alone: the things, and the rooms. -/
theorem things_same {L M : Ld} (h : ∀ n, n < 129 → M.cellAt n = L.cellAt n) : M.thingsA = L.thingsA := by
  apply Array.ext_getElem?
  intro j
  unfold Ld.thingsA
  simp only [Array.getElem?_extract, L.size, M.size]
  by_cases hj : j < 45
  · rw [if_pos (by omega), if_pos (by omega), L.get _ (by omega), M.get _ (by omega), h _ (by omega)]
  · rw [if_neg (by omega), if_neg (by omega)]
theorem rooms_same {L M : Ld} (h : ∀ n, n < 129 → M.cellAt n = L.cellAt n) : M.roomsA = L.roomsA := by
  apply Array.ext_getElem?
  intro j
  unfold Ld.roomsA
  simp only [Array.getElem?_extract, L.size, M.size]
  by_cases hj : j < 84
  · rw [if_pos (by omega), if_pos (by omega), L.get _ (by omega), M.get _ (by omega), h _ (by omega)]
  · rw [if_neg (by omega), if_neg (by omega)]
end Go.Proofs.YtaifjndkgfffpaaDoor
