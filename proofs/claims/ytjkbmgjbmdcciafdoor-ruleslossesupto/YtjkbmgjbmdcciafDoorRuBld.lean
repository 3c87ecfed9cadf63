/-
  A land, and no row yet, laid together: what the program's composite literal comes to; results of three, the first a land.
-/
import Derived.Test.YtjkbmgjbmdcciafDoorRuTake
import Derived.Test.YtjkbmgjbmdcciafDoorLdNew2
namespace Go.Proofs.YtjkbmgjbmdcciafDoor
open Go.RowKit
set_option linter.unusedVariables false

theorem fold_set (off m : Nat) : ∀ (l : List Value) (k : Nat) (Z : Array Value), ((l.zipIdx k).foldl (fun a (x : Value × Nat) => a.setIfInBounds (off + x.2) x.1) Z)[m]? = if off + k ≤ m ∧ m < off + k + l.length ∧ m < Z.size then l[m - (off + k)]? else Z[m]? := by
  intro l
  induction l with
  | nil => intro k Z; simp; intros; omega
  | cons c l ih =>
    intro k Z
    rw [List.zipIdx_cons, List.foldl_cons, ih]
    simp only [Array.size_setIfInBounds, List.length_cons]
    by_cases h1 : m < Z.size
    · by_cases h2 : off + (k + 1) ≤ m ∧ m < off + (k + 1) + l.length ∧ m < Z.size
      · rw [if_pos h2, if_pos (by omega)]
        obtain ⟨j, hj⟩ : ∃ j, m - (off + k) = j + 1 := ⟨m - (off + k) - 1, by omega⟩
        rw [hj, List.getElem?_cons_succ]
        congr 1; omega
      · rw [if_neg h2, Array.getElem?_setIfInBounds]
        by_cases e : off + k = m
        · rw [if_pos e, if_pos (by omega), if_pos (by omega)]
          rw [show m - (off + k) = 0 by omega]; simp
        · rw [if_neg e, if_neg (by omega)]
    · rw [if_neg (by omega), if_neg (by omega), Array.getElem?_setIfInBounds]
      by_cases e : off + k = m
      · rw [if_pos e, if_neg (by omega), Array.getElem?_eq_none (by omega)]
      · rw [if_neg e]
theorem fill_land (L : Ld) (pre : List Value) (v : Value) (place : Nat → Option (Nat × Nat)) (hp : place 0 = some (0, 165)) (rest : List (Nat × Value)) :
    Instr.fill place (zl.more pre v) ((0, .agg L.cells) :: rest) = Instr.fill place (L.more pre v) rest := by
  have hc : ∀ xs : Array Value, (Value.agg xs).cells = xs := fun _ => rfl
  simp only [Instr.fill, hp, hc]
  rw [if_neg (by simp [L.size, more_size]; omega)]
  refine congrArg (fun z => Instr.fill place z rest) ?_
  apply Array.ext_getElem?
  intro m
  rw [← Array.foldl_toList, Array.toList_zipIdx, fold_set 0 m L.cells.toList 0 (zl.more pre v), more_size]
  simp only [Nat.add_zero, Nat.zero_le, true_and, Nat.zero_add, Array.length_toList, L.size, Nat.sub_zero]
  by_cases hm : m < 165
  · rw [if_pos (by omega), more_get L pre v m hm, Array.getElem?_toList, L.get m hm]
  · rw [if_neg (by omega)]
    unfold Ld.more
    rw [Array.getElem?_append_right (by rw [zl.size]; omega), Array.getElem?_append_right (by rw [L.size]; omega), L.size, zl.size]
theorem Tryd.zScene : (Tryd.prog.info? 54).map (fun i => (i.zero, i.size)) = some (some (.agg (zl.more [] (.slice none 0 0))), 166) := by kernel_rfl
theorem Tryd.pScene : (Tryd.prog.fieldsOf 54).toList.mapM (fun f => (Tryd.prog.info? f.type).map fun i => (f.offset, i.size)) = some [(0, 165), (165, 1)] := by kernel_rfl
theorem built_scene (L : Ld) : Tryd.prog.built 54 [(0, .agg L.cells)] = some (L.more [] (.slice none 0 0)) := by
  obtain ⟨hz, hs⟩ := zero_of_info Tryd.zScene
  cases hi : Tryd.prog.info? 54 with
  | none => rw [hi] at hs; simp at hs
  | some it =>
    have hz' : it.zero = some (.agg (zl.more [] (.slice none 0 0))) := by
      have := Tryd.zScene
      rw [hi] at this
      simp at this
      exact this.1
    have hu : Tryd.prog.underlying 54 = some (.struct (Tryd.prog.fieldsOf 54)) := by simp [Program.fieldsOf, Tryd.underlying54]
    unfold Program.built
    simp only [hi, hu, hz', Tryd.pScene]
    exact fill_land L [] (.slice none 0 0) _ rfl []
/-- Three results, the first one a land in a block. -/
theorem res_land {fn : Func} {p u t : Tmp} (h : fn.results = #[.cell p 34, .tmp u, .tmp t]) (tmps : Array Value) (w : World) (g : Nat) (L : Ld) (x y : Value)
    (hp : tmps.getD p undef = .pointer (some ⟨g, 0, none⟩)) (hx : tmps.getD u undef = x) (hy : tmps.getD t undef = y) (hg : w.heap[g]? = some (.cells L.cells 34 (0, 0))) :
    (results fn tmps).run Tryd.prog w = .ok (.tuple #[.agg L.cells, x, y]) w := by
  have hp' : tmps[p]?.getD undef = .pointer (some ⟨g, 0, none⟩) := by simpa using hp
  have hx' : tmps[u]?.getD undef = x := by simpa using hx
  have hy' : tmps[t]?.getD undef = y := by simpa using hy
  have hl := run_loadVar_row (P := Tryd.prog) w g 34 34 L.cells (0, 0) _ hg Tryd.underlying34 rfl (by rw [L.size]; exact Tryd.sizeLand)
  simp [results, h, hp', hx', hy', asAddr, hl]
theorem land_one (L : Ld) : L.cells.all (·.oneCell') = true := by
  refine Array.all_eq_true_iff_forall_mem.2 fun v hv => ?_
  obtain ⟨i, hi⟩ := Array.getElem?_of_mem hv
  have hlt : i < 165 := by
    have := (Array.getElem?_eq_some_iff.1 hi).1
    rw [L.size] at this; exact this
  rw [L.get i hlt] at hi
  injection hi with hi
  rw [← hi]
  unfold Ld.cellAt
  split
  · unfold Ld.roomCell; split <;> (try rfl); split <;> rfl
  · split
    · unfold Ld.thingCell; split <;> rfl
    · unfold Ld.beingCell; split <;> rfl
end Go.Proofs.YtjkbmgjbmdcciafDoor
