/-
  A land is equal to itself, as the program's == finds; so is each room, thing and being of it.
-/
import Derived.Test.YtncgcejlkmoliaaGreatDoorLdGood
import Derived.Test.YtncgcejlkmoliaaGreatDoorLdEqB
namespace Go.Proofs.YtncgcejlkmoliaaGreatDoor
open Go.RowKit
set_option linter.unusedVariables false

theorem Tryz.cellsOfInt : Tryz.prog.cellsOf 3 = 1 := by kernel_rfl
theorem Tryz.cellsOfRoom : Tryz.prog.cellsOf 34 = 14 := by kernel_rfl
theorem Tryz.cellsOfThing : Tryz.prog.cellsOf 37 = 5 := by kernel_rfl
theorem Tryz.cellsOfBeing : Tryz.prog.cellsOf 40 = 6 := by kernel_rfl

section
variable {w : World}
theorem part9 (i : Nat) (x : ByteArray) (xs : Array Value) (h : xs[i]? = some (.string x)) (w : World) : (part 9 xs i).run Tryz.prog w = .ok (.string x) w := by
  have ha : (isAgg 9).run Tryz.prog w = .ok false w := by unfold isAgg; rw [Sem.run_bind, run_underlying Tryz.underlying9 w]; rfl
  simp [part, ha, h]
theorem eqThing (L : Ld) (k d : Nat) : (Op.equalIn (d + 2) 37 (.agg (L.tcells k)) (.agg (L.tcells k))).run Tryz.prog w = .ok true w := by
  have hf : Tryz.prog.underlying 37 = some (.struct (Tryz.prog.fieldsOf 37)) := by simp [Program.fieldsOf, Tryz.underlying37]
  rw [run_equalIn_struct w (d + 1) 37 _ _ hf (by kernel_rfl)]
  refine eq_fields _ ?_
  simp only [Program.fieldsOf, Tryz.underlying37]
  intro f hfm
  simp at hfm
  rcases hfm with rfl | rfl | rfl | rfl | rfl
  · exact ⟨_, part9 0 _ _ (L.tcells_get k 0 (by omega)) w, eqs d _⟩
  · exact ⟨_, part3 1 _ _ (L.tcells_get k 1 (by omega)) w, eqi d _⟩
  · exact ⟨_, part3 2 _ _ (L.tcells_get k 2 (by omega)) w, eqi d _⟩
  · exact ⟨_, part3 3 _ _ (L.tcells_get k 3 (by omega)) w, eqi d _⟩
  · exact ⟨_, part4 4 _ _ (L.tcells_get k 4 (by omega)) w, eqb d _⟩
theorem eqBeing (L : Ld) (k d : Nat) : (Op.equalIn (d + 2) 40 (.agg (L.bcells k)) (.agg (L.bcells k))).run Tryz.prog w = .ok true w := by
  have hf : Tryz.prog.underlying 40 = some (.struct (Tryz.prog.fieldsOf 40)) := by simp [Program.fieldsOf, Tryz.underlying40]
  rw [run_equalIn_struct w (d + 1) 40 _ _ hf (by kernel_rfl)]
  refine eq_fields _ ?_
  simp only [Program.fieldsOf, Tryz.underlying40]
  intro f hfm
  simp at hfm
  rcases hfm with rfl | rfl | rfl | rfl | rfl | rfl
  · exact ⟨_, part9 0 _ _ (L.bcells_get k 0 (by omega)) w, eqs d _⟩
  · exact ⟨_, part4 1 _ _ (L.bcells_get k 1 (by omega)) w, eqb d _⟩
  · exact ⟨_, part4 2 _ _ (L.bcells_get k 2 (by omega)) w, eqb d _⟩
  · exact ⟨_, part3 3 _ _ (L.bcells_get k 3 (by omega)) w, eqi d _⟩
  · exact ⟨_, part3 4 _ _ (L.bcells_get k 4 (by omega)) w, eqi d _⟩
  · exact ⟨_, part3 5 _ _ (L.bcells_get k 5 (by omega)) w, eqi d _⟩
theorem eqInts (f : Nat → Int) (d : Nat) : (Op.equalIn (d + 2) 31 (.agg (ints f)) (.agg (ints f))).run Tryz.prog w = .ok true w := by
  obtain ⟨i0, hi, _, _, _⟩ := info_parts Tryz.info3
  rw [run_equalIn_array (P := Tryz.prog) w (d + 1) _ _ Tryz.underlying31 hi, Tryz.cellsOfInt]
  refine eq_items _ fun i hi => ⟨_, ?_, eqi d (f i)⟩
  rw [Nat.mul_one]
  exact part3 i _ _ (ints_get f i (by simpa using hi)) w
theorem eqBools (f : Nat → Bool) (d : Nat) : (Op.equalIn (d + 2) 32 (.agg (bools f)) (.agg (bools f))).run Tryz.prog w = .ok true w := by
  obtain ⟨i0, hi, _, _, _⟩ := info_parts Tryz.info4
  rw [run_equalIn_array (P := Tryz.prog) w (d + 1) _ _ Tryz.underlying32 hi, Tryz.cells4]
  refine eq_items _ fun i hi => ⟨_, ?_, eqb d (f i)⟩
  rw [Nat.mul_one]
  exact part4 i _ _ (bools_get f i (by simpa using hi)) w
theorem eqRoom (L : Ld) (k d : Nat) : (Op.equalIn (d + 3) 34 (.agg (L.rcells k)) (.agg (L.rcells k))).run Tryz.prog w = .ok true w := by
  have hf : Tryz.prog.underlying 34 = some (.struct (Tryz.prog.fieldsOf 34)) := by simp [Program.fieldsOf, Tryz.underlying34]
  rw [run_equalIn_struct w (d + 2) 34 _ _ hf (by kernel_rfl)]
  refine eq_fields _ ?_
  simp only [Program.fieldsOf, Tryz.underlying34]
  intro f hfm
  simp at hfm
  rcases hfm with rfl | rfl | rfl | rfl
  · exact ⟨_, part9 0 _ _ (L.rcells_get k 0 (by omega)) w, eqs (d + 1) _⟩
  · exact ⟨_, part4 1 _ _ (L.rcells_get k 1 (by omega)) w, eqb (d + 1) _⟩
  · exact ⟨_, part_agg Tryz.underlying31 rfl Tryz.sizeInts _ 2, eqInts (L.exit k) d⟩
  · exact ⟨_, part_agg Tryz.underlying32 rfl Tryz.sizeBools _ 8, eqBools (L.shut k) d⟩

theorem eqLand (L : Ld) : (Op.equalIn 10000 43 (.agg L.cells) (.agg L.cells)).run Tryz.prog w = .ok true w := by
  have hf : Tryz.prog.underlying 43 = some (.struct (Tryz.prog.fieldsOf 43)) := by simp [Program.fieldsOf, Tryz.underlying43]
  rw [run_equalIn_struct w 9999 43 _ _ hf (by kernel_rfl)]
  refine eq_fields _ ?_
  simp only [Program.fieldsOf, Tryz.underlying43]
  intro f hfm
  simp at hfm
  rcases hfm with rfl | rfl | rfl
  · refine ⟨_, part_agg Tryz.underlying35 rfl Tryz.sizeRooms _ 0, ?_⟩
    obtain ⟨i0, hi⟩ := info_of_underlying Tryz.underlying34
    show (Op.equalIn 9999 35 (.agg L.roomsA) (.agg L.roomsA)).run Tryz.prog w = _
    rw [run_equalIn_array (P := Tryz.prog) w 9998 _ _ Tryz.underlying35 hi, Tryz.cellsOfRoom]
    refine eq_items _ fun k hk => ⟨_, part_agg Tryz.underlying34 rfl Tryz.sizeRoom _ _, ?_⟩
    rw [L.rooms_at k (by simpa using hk)]
    exact eqRoom L k 9995
  · refine ⟨_, part_agg Tryz.underlying38 rfl Tryz.sizeThings _ 84, ?_⟩
    obtain ⟨i0, hi⟩ := info_of_underlying Tryz.underlying37
    show (Op.equalIn 9999 38 (.agg L.thingsA) (.agg L.thingsA)).run Tryz.prog w = _
    rw [run_equalIn_array (P := Tryz.prog) w 9998 _ _ Tryz.underlying38 hi, Tryz.cellsOfThing]
    refine eq_items _ fun k hk => ⟨_, part_agg Tryz.underlying37 rfl Tryz.sizeThing _ _, ?_⟩
    rw [L.things_at k (by simpa using hk)]
    exact eqThing L k 9996
  · refine ⟨_, part_agg Tryz.underlying41 rfl Tryz.sizeBeings _ 129, ?_⟩
    obtain ⟨i0, hi⟩ := info_of_underlying Tryz.underlying40
    show (Op.equalIn 9999 41 (.agg L.beingsA) (.agg L.beingsA)).run Tryz.prog w = _
    rw [run_equalIn_array (P := Tryz.prog) w 9998 _ _ Tryz.underlying41 hi, Tryz.cellsOfBeing]
    refine eq_items _ fun k hk => ⟨_, part_agg Tryz.underlying40 rfl Tryz.sizeBeing _ _, ?_⟩
    rw [L.beings_at k (by simpa using hk)]
    exact eqBeing L k 9996
end
end Go.Proofs.YtncgcejlkmoliaaGreatDoor
