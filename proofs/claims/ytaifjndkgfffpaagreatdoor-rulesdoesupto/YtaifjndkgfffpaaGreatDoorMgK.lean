/-
  What == finds of arrays and of parts of structs: laws of no program.
-/
import Derived.Test.YtaifjndkgfffpaaGreatDoorBs
import Derived.Test.YtaifjndkgfffpaaGreatDoorMgF
import Derived.Test.YtaifjndkgfffpaaGreatDoorMgD
namespace Go.Proofs.YtaifjndkgfffpaaGreatDoor
open Go.RowKit
set_option linter.unusedVariables false
section
variable {P : Program} {w : World}
theorem eq_items {d : Nat} {e : TypeId} {c : Nat} {xs : Array Value} : ∀ (is : List Nat), (∀ i ∈ is, ∃ v, (part e xs (i * c)).run P w = .ok v w ∧ (Op.equalIn d e v v).run P w = .ok true w) → (Op.eqItems d e c xs xs is).run P w = .ok true w
  | [], _ => by simp [Op.eqItems]
  | i :: is, h => by
    obtain ⟨v, h1, h2⟩ := h i (List.mem_cons_self ..)
    have ih := eq_items is (fun j hj => h j (List.mem_cons_of_mem _ hj))
    simp only [Op.eqItems, Sem.run_bind, h1, h2, Result.andThen_ok]
    simpa using ih
theorem part_agg {e : TypeId} {d : TypeDesc} {s : Nat} (he : P.underlying e = some d) (hd : d.isRow = true) (hi : (P.info? e).map (·.size) = some s) (xs : Array Value) (o : Nat) : (part e xs o).run P w = .ok (.agg (xs.extract o (o + s))) w := by
  have hagg : (isAgg e).run P w = .ok true w := by
    unfold isAgg
    rw [Sem.run_bind, run_underlying he w]
    cases d <;> simp_all
  have hsz : (sizeOf e).run P w = .ok s w := by
    cases hq : P.info? e with
    | none => simp [hq] at hi
    | some i =>
      have : i.size = s := by simpa [hq] using hi
      simp [sizeOf, typeInfo, hq, this]
  simp only [part, Sem.run_bind, hagg, Result.andThen_ok, if_true, hsz, Sem.run_pure]
end
/-
  A land is equal to itself, as the program's == finds; so is each room, thing and being of it.
-/
theorem Tryz.cellsOfInt : Tryz.prog.cellsOf 3 = 1 := by kernel_rfl
theorem Tryz.cellsOfRoom : Tryz.prog.cellsOf 25 = 14 := by kernel_rfl
theorem Tryz.cellsOfThing : Tryz.prog.cellsOf 28 = 5 := by kernel_rfl
theorem Tryz.cellsOfBeing : Tryz.prog.cellsOf 31 = 6 := by kernel_rfl

section
variable {w : World}
theorem part9 (i : Nat) (x : ByteArray) (xs : Array Value) (h : xs[i]? = some (.string x)) (w : World) : (part 9 xs i).run Tryz.prog w = .ok (.string x) w := by
  have ha : (isAgg 9).run Tryz.prog w = .ok false w := by unfold isAgg; rw [Sem.run_bind, run_underlying Tryz.underlying9 w]; rfl
  simp [part, ha, h]
theorem eqThing (L : Ld) (k d : Nat) : (Op.equalIn (d + 2) 28 (.agg (L.tcells k)) (.agg (L.tcells k))).run Tryz.prog w = .ok true w := by
  have hf : Tryz.prog.underlying 28 = some (.struct (Tryz.prog.fieldsOf 28)) := by simp [Program.fieldsOf, Tryz.underlying28]
  rw [run_equalIn_struct w (d + 1) 28 _ _ hf (by kernel_rfl)]
  refine eq_fields _ ?_
  simp only [Program.fieldsOf, Tryz.underlying28]
  intro f hfm
  simp at hfm
  rcases hfm with rfl | rfl | rfl | rfl | rfl
  · exact ⟨_, part9 0 _ _ (L.tcells_get k 0 (by omega)) w, eqs d _⟩
  · exact ⟨_, part3 1 _ _ (L.tcells_get k 1 (by omega)) w, eqi d _⟩
  · exact ⟨_, part3 2 _ _ (L.tcells_get k 2 (by omega)) w, eqi d _⟩
  · exact ⟨_, part3 3 _ _ (L.tcells_get k 3 (by omega)) w, eqi d _⟩
  · exact ⟨_, part4 4 _ _ (L.tcells_get k 4 (by omega)) w, eqb d _⟩
theorem eqBeing (L : Ld) (k d : Nat) : (Op.equalIn (d + 2) 31 (.agg (L.bcells k)) (.agg (L.bcells k))).run Tryz.prog w = .ok true w := by
  have hf : Tryz.prog.underlying 31 = some (.struct (Tryz.prog.fieldsOf 31)) := by simp [Program.fieldsOf, Tryz.underlying31]
  rw [run_equalIn_struct w (d + 1) 31 _ _ hf (by kernel_rfl)]
  refine eq_fields _ ?_
  simp only [Program.fieldsOf, Tryz.underlying31]
  intro f hfm
  simp at hfm
  rcases hfm with rfl | rfl | rfl | rfl | rfl | rfl
  · exact ⟨_, part9 0 _ _ (L.bcells_get k 0 (by omega)) w, eqs d _⟩
  · exact ⟨_, part4 1 _ _ (L.bcells_get k 1 (by omega)) w, eqb d _⟩
  · exact ⟨_, part4 2 _ _ (L.bcells_get k 2 (by omega)) w, eqb d _⟩
  · exact ⟨_, part3 3 _ _ (L.bcells_get k 3 (by omega)) w, eqi d _⟩
  · exact ⟨_, part3 4 _ _ (L.bcells_get k 4 (by omega)) w, eqi d _⟩
  · exact ⟨_, part3 5 _ _ (L.bcells_get k 5 (by omega)) w, eqi d _⟩
theorem eqInts (f : Nat → Int) (d : Nat) : (Op.equalIn (d + 2) 22 (.agg (ints f)) (.agg (ints f))).run Tryz.prog w = .ok true w := by
  obtain ⟨i0, hi, _, _, _⟩ := info_parts Tryz.info3
  rw [run_equalIn_array (P := Tryz.prog) w (d + 1) _ _ Tryz.underlying22 hi, Tryz.cellsOfInt]
  refine eq_items _ fun i hi => ⟨_, ?_, eqi d (f i)⟩
  rw [Nat.mul_one]
  exact part3 i _ _ (ints_get f i (by simpa using hi)) w
theorem eqBools (f : Nat → Bool) (d : Nat) : (Op.equalIn (d + 2) 23 (.agg (bools f)) (.agg (bools f))).run Tryz.prog w = .ok true w := by
  obtain ⟨i0, hi, _, _, _⟩ := info_parts Tryz.info4
  rw [run_equalIn_array (P := Tryz.prog) w (d + 1) _ _ Tryz.underlying23 hi, Tryz.cells4]
  refine eq_items _ fun i hi => ⟨_, ?_, eqb d (f i)⟩
  rw [Nat.mul_one]
  exact part4 i _ _ (bools_get f i (by simpa using hi)) w
theorem eqRoom (L : Ld) (k d : Nat) : (Op.equalIn (d + 3) 25 (.agg (L.rcells k)) (.agg (L.rcells k))).run Tryz.prog w = .ok true w := by
  have hf : Tryz.prog.underlying 25 = some (.struct (Tryz.prog.fieldsOf 25)) := by simp [Program.fieldsOf, Tryz.underlying25]
  rw [run_equalIn_struct w (d + 2) 25 _ _ hf (by kernel_rfl)]
  refine eq_fields _ ?_
  simp only [Program.fieldsOf, Tryz.underlying25]
  intro f hfm
  simp at hfm
  rcases hfm with rfl | rfl | rfl | rfl
  · exact ⟨_, part9 0 _ _ (L.rcells_get k 0 (by omega)) w, eqs (d + 1) _⟩
  · exact ⟨_, part4 1 _ _ (L.rcells_get k 1 (by omega)) w, eqb (d + 1) _⟩
  · exact ⟨_, part_agg Tryz.underlying22 rfl Tryz.sizeInts _ 2, eqInts (L.exit k) d⟩
  · exact ⟨_, part_agg Tryz.underlying23 rfl Tryz.sizeBools _ 8, eqBools (L.shut k) d⟩

theorem eqLand (L : Ld) : (Op.equalIn 10000 34 (.agg L.cells) (.agg L.cells)).run Tryz.prog w = .ok true w := by
  have hf : Tryz.prog.underlying 34 = some (.struct (Tryz.prog.fieldsOf 34)) := by simp [Program.fieldsOf, Tryz.underlying34]
  rw [run_equalIn_struct w 9999 34 _ _ hf (by kernel_rfl)]
  refine eq_fields _ ?_
  simp only [Program.fieldsOf, Tryz.underlying34]
  intro f hfm
  simp at hfm
  rcases hfm with rfl | rfl | rfl
  · refine ⟨_, part_agg Tryz.underlying26 rfl Tryz.sizeRooms _ 0, ?_⟩
    obtain ⟨i0, hi⟩ := info_of_underlying Tryz.underlying25
    show (Op.equalIn 9999 26 (.agg L.roomsA) (.agg L.roomsA)).run Tryz.prog w = _
    rw [run_equalIn_array (P := Tryz.prog) w 9998 _ _ Tryz.underlying26 hi, Tryz.cellsOfRoom]
    refine eq_items _ fun k hk => ⟨_, part_agg Tryz.underlying25 rfl Tryz.sizeRoom _ _, ?_⟩
    rw [L.rooms_at k (by simpa using hk)]
    exact eqRoom L k 9995
  · refine ⟨_, part_agg Tryz.underlying29 rfl Tryz.sizeThings _ 84, ?_⟩
    obtain ⟨i0, hi⟩ := info_of_underlying Tryz.underlying28
    show (Op.equalIn 9999 29 (.agg L.thingsA) (.agg L.thingsA)).run Tryz.prog w = _
    rw [run_equalIn_array (P := Tryz.prog) w 9998 _ _ Tryz.underlying29 hi, Tryz.cellsOfThing]
    refine eq_items _ fun k hk => ⟨_, part_agg Tryz.underlying28 rfl Tryz.sizeThing _ _, ?_⟩
    rw [L.things_at k (by simpa using hk)]
    exact eqThing L k 9996
  · refine ⟨_, part_agg Tryz.underlying32 rfl Tryz.sizeBeings _ 129, ?_⟩
    obtain ⟨i0, hi⟩ := info_of_underlying Tryz.underlying31
    show (Op.equalIn 9999 32 (.agg L.beingsA) (.agg L.beingsA)).run Tryz.prog w = _
    rw [run_equalIn_array (P := Tryz.prog) w 9998 _ _ Tryz.underlying32 hi, Tryz.cellsOfBeing]
    refine eq_items _ fun k hk => ⟨_, part_agg Tryz.underlying31 rfl Tryz.sizeBeing _ _, ?_⟩
    rw [L.beings_at k (by simpa using hk)]
    exact eqBeing L k 9996
end
/-
  All things, and all rooms, of a land are equal to themselves, as the program's == finds; they are read wherever the walk stands.
-/
theorem Tryz.guardLand : Tryz.prog.eqGuardType Tryz.prog.depth 34 = false := by kernel_rfl
theorem exec_eqland {a : Act} {op : Oper} {w : World} (x y : Operand) (t : TypeId) (ho : op.op = .binOp .eql 34 x y t) {L : Ld} (hx : a.eval x = .agg L.cells) (hy : a.eval y = .agg L.cells) : (execOp a.eval op).run Tryz.prog w = .ok (.value (.bool true)) w := by
  have hg : (eqGuard .eql 34 x y (.agg L.cells) (.agg L.cells)).run Tryz.prog w = .ok () w := by
    have hg := Tryz.guardLand
    simp [eqGuard, hg]
  have he : (binOp .eql 34 (.agg L.cells) (.agg L.cells)).run Tryz.prog w = .ok (.bool true) w := by
    rw [run_eql_struct]
    show ((Op.equalIn 10000 34 (.agg L.cells) (.agg L.cells)).run Tryz.prog w).andThen _ = _
    rw [eqLand]; rfl
  unfold execOp
  simp only [ho, hx, hy, Sem.run_bind, hg, he, Result.andThen_ok, Sem.run_pure]
end Go.Proofs.YtaifjndkgfffpaaGreatDoor
