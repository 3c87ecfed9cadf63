/-
  What == finds of arrays and of parts of structs: laws of no program.
-/
import Derived.Test.YtaifjndkgfffpaaDoorBs
import Derived.Test.YtaifjndkgfffpaaDoorMgF
import Derived.Test.YtaifjndkgfffpaaDoorMgD
namespace Go.Proofs.YtaifjndkgfffpaaDoor
open Go.RowKit
set_option linter.unusedVariables false

section
variable {P : Program} {w : World}
theorem eq_items {d : Nat} {e : TypeId} {c : Nat} {xs : Array Value} : ∀ (is : List Nat), (∀ i ∈ is, ∃ v, (part e xs (i * c)).run P w = .ok v w ∧ (Op.equalIn d e v v).run P w = .ok true w) → (Op.eqItems d e c xs xs is).run P w = .ok true w
  | [], _ => by simp [Op.eqItems]
  | i :: is, h => by
    obtain ⟨v, h1, h2⟩ := h i (List.mem_cons_self ..)
    have ih := eq_items is (fun j hj => h j (List.mem_cons_of_mem _ hj))
    simp only [Op.eqItems, Sem.run_bind, h1, h2, Result.andThen_ok]
    simpa using ih
theorem part_agg {e : TypeId} {d : TypeDesc} {s : Nat} (he : P.underlying e = some d) (hd : d.isRow = true) (hi : (P.info? e).map (·.size) = some s) (xs : Array Value) (o : Nat) : (part e xs o).run P w = .ok (.agg (xs.extract o (o + s))) w := by
  have hagg : (isAgg e).run P w = .ok true w := by
    unfold isAgg
    rw [Sem.run_bind, run_underlying he w]
    cases d <;> simp_all
  have hsz : (sizeOf e).run P w = .ok s w := by
    cases hq : P.info? e with
    | none => simp [hq] at hi
    | some i =>
      have : i.size = s := by simpa [hq] using hi
      simp [sizeOf, typeInfo, hq, this]
  simp only [part, Sem.run_bind, hagg, Result.andThen_ok, if_true, hsz, Sem.run_pure]
end

end Go.Proofs.YtaifjndkgfffpaaDoor
/-
  A land is equal to itself, as the program's == finds; so is each room, thing and being of it.
-/
namespace Go.Proofs.YtaifjndkgfffpaaDoor
open Go.RowKit
set_option linter.unusedVariables false

theorem Tryd.cellsOfInt : Tryd.prog.cellsOf 3 = 1 := by kernel_rfl
theorem Tryd.cellsOfRoom : Tryd.prog.cellsOf 25 = 14 := by kernel_rfl
theorem Tryd.cellsOfThing : Tryd.prog.cellsOf 28 = 5 := by kernel_rfl
theorem Tryd.cellsOfBeing : Tryd.prog.cellsOf 31 = 6 := by kernel_rfl

section
variable {w : World}
theorem part9 (i : Nat) (x : ByteArray) (xs : Array Value) (h : xs[i]? = some (.string x)) (w : World) : (part 9 xs i).run Tryd.prog w = .ok (.string x) w := by
  have ha : (isAgg 9).run Tryd.prog w = .ok false w := by unfold isAgg; rw [Sem.run_bind, run_underlying Tryd.underlying9 w]; rfl
  simp [part, ha, h]
theorem eqThing (L : Ld) (k d : Nat) : (Op.equalIn (d + 2) 28 (.agg (L.tcells k)) (.agg (L.tcells k))).run Tryd.prog w = .ok true w := by
  have hf : Tryd.prog.underlying 28 = some (.struct (Tryd.prog.fieldsOf 28)) := by simp [Program.fieldsOf, Tryd.underlying28]
  rw [run_equalIn_struct w (d + 1) 28 _ _ hf (by kernel_rfl)]
  refine eq_fields _ ?_
  simp only [Program.fieldsOf, Tryd.underlying28]
  intro f hfm
  simp at hfm
  rcases hfm with rfl | rfl | rfl | rfl | rfl
  · exact ⟨_, part9 0 _ _ (L.tcells_get k 0 (by omega)) w, eqs d _⟩
  · exact ⟨_, part3 1 _ _ (L.tcells_get k 1 (by omega)) w, eqi d _⟩
  · exact ⟨_, part3 2 _ _ (L.tcells_get k 2 (by omega)) w, eqi d _⟩
  · exact ⟨_, part3 3 _ _ (L.tcells_get k 3 (by omega)) w, eqi d _⟩
  · exact ⟨_, part4 4 _ _ (L.tcells_get k 4 (by omega)) w, eqb d _⟩
theorem eqBeing (L : Ld) (k d : Nat) : (Op.equalIn (d + 2) 31 (.agg (L.bcells k)) (.agg (L.bcells k))).run Tryd.prog w = .ok true w := by
  have hf : Tryd.prog.underlying 31 = some (.struct (Tryd.prog.fieldsOf 31)) := by simp [Program.fieldsOf, Tryd.underlying31]
  rw [run_equalIn_struct w (d + 1) 31 _ _ hf (by kernel_rfl)]
  refine eq_fields _ ?_
  simp only [Program.fieldsOf, Tryd.underlying31]
  intro f hfm
  simp at hfm
  rcases hfm with rfl | rfl | rfl | rfl | rfl | rfl
  · exact ⟨_, part9 0 _ _ (L.bcells_get k 0 (by omega)) w, eqs d _⟩
  · exact ⟨_, part4 1 _ _ (L.bcells_get k 1 (by omega)) w, eqb d _⟩
  · exact ⟨_, part4 2 _ _ (L.bcells_get k 2 (by omega)) w, eqb d _⟩
  · exact ⟨_, part3 3 _ _ (L.bcells_get k 3 (by omega)) w, eqi d _⟩
  · exact ⟨_, part3 4 _ _ (L.bcells_get k 4 (by omega)) w, eqi d _⟩
  · exact ⟨_, part3 5 _ _ (L.bcells_get k 5 (by omega)) w, eqi d _⟩
theorem eqInts (f : Nat → Int) (d : Nat) : (Op.equalIn (d + 2) 22 (.agg (ints f)) (.agg (ints f))).run Tryd.prog w = .ok true w := by
  obtain ⟨i0, hi, _, _, _⟩ := info_parts Tryd.info3
  rw [run_equalIn_array (P := Tryd.prog) w (d + 1) _ _ Tryd.underlying22 hi, Tryd.cellsOfInt]
  refine eq_items _ fun i hi => ⟨_, ?_, eqi d (f i)⟩
  rw [Nat.mul_one]
  exact part3 i _ _ (ints_get f i (by simpa using hi)) w
theorem eqBools (f : Nat → Bool) (d : Nat) : (Op.equalIn (d + 2) 23 (.agg (bools f)) (.agg (bools f))).run Tryd.prog w = .ok true w := by
  obtain ⟨i0, hi, _, _, _⟩ := info_parts Tryd.info4
  rw [run_equalIn_array (P := Tryd.prog) w (d + 1) _ _ Tryd.underlying23 hi, Tryd.cells4]
  refine eq_items _ fun i hi => ⟨_, ?_, eqb d (f i)⟩
  rw [Nat.mul_one]
  exact part4 i _ _ (bools_get f i (by simpa using hi)) w
theorem eqRoom (L : Ld) (k d : Nat) : (Op.equalIn (d + 3) 25 (.agg (L.rcells k)) (.agg (L.rcells k))).run Tryd.prog w = .ok true w := by
  have hf : Tryd.prog.underlying 25 = some (.struct (Tryd.prog.fieldsOf 25)) := by simp [Program.fieldsOf, Tryd.underlying25]
  rw [run_equalIn_struct w (d + 2) 25 _ _ hf (by kernel_rfl)]
  refine eq_fields _ ?_
  simp only [Program.fieldsOf, Tryd.underlying25]
  intro f hfm
  simp at hfm
  rcases hfm with rfl | rfl | rfl | rfl
  · exact ⟨_, part9 0 _ _ (L.rcells_get k 0 (by omega)) w, eqs (d + 1) _⟩
  · exact ⟨_, part4 1 _ _ (L.rcells_get k 1 (by omega)) w, eqb (d + 1) _⟩
  · exact ⟨_, part_agg Tryd.underlying22 rfl Tryd.sizeInts _ 2, eqInts (L.exit k) d⟩
  · exact ⟨_, part_agg Tryd.underlying23 rfl Tryd.sizeBools _ 8, eqBools (L.shut k) d⟩

theorem eqLand (L : Ld) : (Op.equalIn 10000 34 (.agg L.cells) (.agg L.cells)).run Tryd.prog w = .ok true w := by
  have hf : Tryd.prog.underlying 34 = some (.struct (Tryd.prog.fieldsOf 34)) := by simp [Program.fieldsOf, Tryd.underlying34]
  rw [run_equalIn_struct w 9999 34 _ _ hf (by kernel_rfl)]
  refine eq_fields _ ?_
  simp only [Program.fieldsOf, Tryd.underlying34]
  intro f hfm
  simp at hfm
  rcases hfm with rfl | rfl | rfl
  · refine ⟨_, part_agg Tryd.underlying26 rfl Tryd.sizeRooms _ 0, ?_⟩
    obtain ⟨i0, hi⟩ := info_of_underlying Tryd.underlying25
    show (Op.equalIn 9999 26 (.agg L.roomsA) (.agg L.roomsA)).run Tryd.prog w = _
    rw [run_equalIn_array (P := Tryd.prog) w 9998 _ _ Tryd.underlying26 hi, Tryd.cellsOfRoom]
    refine eq_items _ fun k hk => ⟨_, part_agg Tryd.underlying25 rfl Tryd.sizeRoom _ _, ?_⟩
    rw [L.rooms_at k (by simpa using hk)]
    exact eqRoom L k 9995
  · refine ⟨_, part_agg Tryd.underlying29 rfl Tryd.sizeThings _ 84, ?_⟩
    obtain ⟨i0, hi⟩ := info_of_underlying Tryd.underlying28
    show (Op.equalIn 9999 29 (.agg L.thingsA) (.agg L.thingsA)).run Tryd.prog w = _
    rw [run_equalIn_array (P := Tryd.prog) w 9998 _ _ Tryd.underlying29 hi, Tryd.cellsOfThing]
    refine eq_items _ fun k hk => ⟨_, part_agg Tryd.underlying28 rfl Tryd.sizeThing _ _, ?_⟩
    rw [L.things_at k (by simpa using hk)]
    exact eqThing L k 9996
  · refine ⟨_, part_agg Tryd.underlying32 rfl Tryd.sizeBeings _ 129, ?_⟩
    obtain ⟨i0, hi⟩ := info_of_underlying Tryd.underlying31
    show (Op.equalIn 9999 32 (.agg L.beingsA) (.agg L.beingsA)).run Tryd.prog w = _
    rw [run_equalIn_array (P := Tryd.prog) w 9998 _ _ Tryd.underlying32 hi, Tryd.cellsOfBeing]
    refine eq_items _ fun k hk => ⟨_, part_agg Tryd.underlying31 rfl Tryd.sizeBeing _ _, ?_⟩
    rw [L.beings_at k (by simpa using hk)]
    exact eqBeing L k 9996
end
end Go.Proofs.YtaifjndkgfffpaaDoor
/-
  All things, and all rooms, of a land are equal to themselves, as the program's == finds; they are read wherever the walk stands.
-/
namespace Go.Proofs.YtaifjndkgfffpaaDoor
open Go.RowKit
set_option linter.unusedVariables false

theorem eqThingsA (L : Ld) (w : World) : (Op.equalIn 10000 29 (.agg L.thingsA) (.agg L.thingsA)).run Tryd.prog w = .ok true w := by
  obtain ⟨i0, hi⟩ := info_of_underlying Tryd.underlying28
  rw [run_equalIn_array (P := Tryd.prog) w 9999 _ _ Tryd.underlying29 hi, Tryd.cellsOfThing]
  refine eq_items _ fun k hk => ⟨_, part_agg Tryd.underlying28 rfl Tryd.sizeThing _ _, ?_⟩
  rw [L.things_at k (by simpa using hk)]
  exact eqThing L k 9997
theorem eqRoomsA (L : Ld) (w : World) : (Op.equalIn 10000 26 (.agg L.roomsA) (.agg L.roomsA)).run Tryd.prog w = .ok true w := by
  obtain ⟨i0, hi⟩ := info_of_underlying Tryd.underlying25
  rw [run_equalIn_array (P := Tryd.prog) w 9999 _ _ Tryd.underlying26 hi, Tryd.cellsOfRoom]
  refine eq_items _ fun k hk => ⟨_, part_agg Tryd.underlying25 rfl Tryd.sizeRoom _ _, ?_⟩
  rw [L.rooms_at k (by simpa using hk)]
  exact eqRoom L k 9996
theorem Tryd.guardThings : Tryd.prog.eqGuardType Tryd.prog.depth 29 = false := by kernel_rfl
theorem Tryd.guardRooms : Tryd.prog.eqGuardType Tryd.prog.depth 26 = false := by kernel_rfl
theorem Tryd.guardLand : Tryd.prog.eqGuardType Tryd.prog.depth 34 = false := by kernel_rfl
theorem exec_eqthings {a : Act} {op : Oper} {w : World} (x y : Operand) (t : TypeId) (ho : op.op = .binOp .eql 29 x y t) {L : Ld} (hx : a.eval x = .agg L.thingsA) (hy : a.eval y = .agg L.thingsA) : (execOp a.eval op).run Tryd.prog w = .ok (.value (.bool true)) w := by
  have hg : (eqGuard .eql 29 x y (.agg L.thingsA) (.agg L.thingsA)).run Tryd.prog w = .ok () w := by
    have hg := Tryd.guardThings
    simp [eqGuard, hg]
  have he : (binOp .eql 29 (.agg L.thingsA) (.agg L.thingsA)).run Tryd.prog w = .ok (.bool true) w := by
    rw [run_eql_struct]
    show ((Op.equalIn 10000 29 (.agg L.thingsA) (.agg L.thingsA)).run Tryd.prog w).andThen _ = _
    rw [eqThingsA]; rfl
  unfold execOp
  simp only [ho, hx, hy, Sem.run_bind, hg, he, Result.andThen_ok, Sem.run_pure]
theorem exec_eqrooms {a : Act} {op : Oper} {w : World} (x y : Operand) (t : TypeId) (ho : op.op = .binOp .eql 26 x y t) {L : Ld} (hx : a.eval x = .agg L.roomsA) (hy : a.eval y = .agg L.roomsA) : (execOp a.eval op).run Tryd.prog w = .ok (.value (.bool true)) w := by
  have hg : (eqGuard .eql 26 x y (.agg L.roomsA) (.agg L.roomsA)).run Tryd.prog w = .ok () w := by
    have hg := Tryd.guardRooms
    simp [eqGuard, hg]
  have he : (binOp .eql 26 (.agg L.roomsA) (.agg L.roomsA)).run Tryd.prog w = .ok (.bool true) w := by
    rw [run_eql_struct]
    show ((Op.equalIn 10000 26 (.agg L.roomsA) (.agg L.roomsA)).run Tryd.prog w).andThen _ = _
    rw [eqRoomsA]; rfl
  unfold execOp
  simp only [ho, hx, hy, Sem.run_bind, hg, he, Result.andThen_ok, Sem.run_pure]
theorem exec_eqland {a : Act} {op : Oper} {w : World} (x y : Operand) (t : TypeId) (ho : op.op = .binOp .eql 34 x y t) {L : Ld} (hx : a.eval x = .agg L.cells) (hy : a.eval y = .agg L.cells) : (execOp a.eval op).run Tryd.prog w = .ok (.value (.bool true)) w := by
  have hg : (eqGuard .eql 34 x y (.agg L.cells) (.agg L.cells)).run Tryd.prog w = .ok () w := by
    have hg := Tryd.guardLand
    simp [eqGuard, hg]
  have he : (binOp .eql 34 (.agg L.cells) (.agg L.cells)).run Tryd.prog w = .ok (.bool true) w := by
    rw [run_eql_struct]
    show ((Op.equalIn 10000 34 (.agg L.cells) (.agg L.cells)).run Tryd.prog w).andThen _ = _
    rw [eqLand]; rfl
  unfold execOp
  simp only [ho, hx, hy, Sem.run_bind, hg, he, Result.andThen_ok, Sem.run_pure]
theorem exec_things {a : Act} {op : Oper} {w : World} {L : Ld} {A : Array Value} (he : L.thingsA = A) (x : Operand) (ho : op.op = .load 29 x) (b : Nat) (hx : a.eval x = .pointer (some ⟨b, 84, none⟩)) (hc : Cod w b L) : (execOp a.eval op).run Tryd.prog w = .ok (.value (.agg A)) w := by
  subst he
  have := run_loadVar_mid (P := Tryd.prog) w b 84 29 L.thingsA.toList _ hc.thingsR Tryd.underlying29 rfl (by rw [Array.length_toList]; unfold Ld.thingsA; rw [Array.size_extract, L.size]; exact Tryd.sizeThings)
  rw [Array.toArray_toList] at this
  unfold execOp
  simp only [ho, hx, Instr.loadAt, Instr.sureAddr, Sem.run_bind, Sem.run_pure, Result.andThen_ok, this]
theorem exec_rooms {a : Act} {op : Oper} {w : World} {L : Ld} {A : Array Value} (he : L.roomsA = A) (x : Operand) (ho : op.op = .load 26 x) (b : Nat) (hx : a.eval x = .pointer (some ⟨b, 0, none⟩)) (hc : Cod w b L) : (execOp a.eval op).run Tryd.prog w = .ok (.value (.agg A)) w := by
  subst he
  have := run_loadVar_mid (P := Tryd.prog) w b 0 26 L.roomsA.toList _ hc.roomsR Tryd.underlying26 rfl (by rw [Array.length_toList]; unfold Ld.roomsA; rw [Array.size_extract, L.size]; exact Tryd.sizeRooms)
  rw [Array.toArray_toList] at this
  unfold execOp
  simp only [ho, hx, Instr.loadAt, Instr.sureAddr, Sem.run_bind, Sem.run_pure, Result.andThen_ok, this]
/-- Two lands that differ in beings alone: the things, and the rooms. -/
theorem things_same {L M : Ld} (h : ∀ n, n < 129 → M.cellAt n = L.cellAt n) : M.thingsA = L.thingsA := by
  apply Array.ext_getElem?
  intro j
  unfold Ld.thingsA
  simp only [Array.getElem?_extract, L.size, M.size]
  by_cases hj : j < 45
  · rw [if_pos (by omega), if_pos (by omega), L.get _ (by omega), M.get _ (by omega), h _ (by omega)]
  · rw [if_neg (by omega), if_neg (by omega)]
theorem rooms_same {L M : Ld} (h : ∀ n, n < 129 → M.cellAt n = L.cellAt n) : M.roomsA = L.roomsA := by
  apply Array.ext_getElem?
  intro j
  unfold Ld.roomsA
  simp only [Array.getElem?_extract, L.size, M.size]
  by_cases hj : j < 84
  · rw [if_pos (by omega), if_pos (by omega), L.get _ (by omega), M.get _ (by omega), h _ (by omega)]
  · rw [if_neg (by omega), if_neg (by omega)]
end Go.Proofs.YtaifjndkgfffpaaDoor
