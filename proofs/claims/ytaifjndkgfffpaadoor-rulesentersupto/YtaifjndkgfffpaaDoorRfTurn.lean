/-
  The document's own turn: made, and whose it is: what lies in memory.
-/
import Derived.Test.YtaifjndkgfffpaaDoorRfAdd
import Derived.Test.YtaifjndkgfffpaaDoorRfLeave
import Derived.Test.YtaifjndkgfffpaaDoorRfLook
import Derived.Test.YtaifjndkgfffpaaDoorRfGood
import Derived.Test.YtaifjndkgfffpaaDoorMgG
import Derived.Test.YtaifjndkgfffpaaDoorMgL
namespace Go.Proofs.YtaifjndkgfffpaaDoor
open Go.RowKit
set_option linter.unusedVariables false

theorem more_fore (L : Ld) (x y v : Value) : (L.more [x] v).setIfInBounds 165 y = L.more [y] v := by
  apply Array.ext_getElem?
  intro m
  rw [Array.getElem?_setIfInBounds]
  by_cases e : 165 = m
  · subst e
    rw [if_pos rfl, if_pos (by rw [more_size]; simp)]
    exact (more_pre L [y] v 0 (by simp)).symm
  · rw [if_neg e]
    unfold Ld.more
    by_cases hm : m < 165
    · rw [Array.getElem?_append_left (by rw [L.size]; exact hm), Array.getElem?_append_left (by rw [L.size]; exact hm)]
    · rw [Array.getElem?_append_right (by rw [L.size]; omega), Array.getElem?_append_right (by rw [L.size]; omega), L.size]
      obtain ⟨j, rfl⟩ : ∃ j, m = 166 + j := ⟨m - 166, by omega⟩
      rw [show 166 + j - 165 = j + 1 by omega]
      simp
theorem Sn.whose {T : TypeId} {x : Value} {w0 w : World} {L : Ld} {Es : List Ev} (h : Sn T [x] w0 L Es w) (y : Value) : Sn T [y] w0 L Es (w.setCell ⟨w0.heap.size, 165, none⟩ y) := by
  obtain ⟨v, hv, ho⟩ := h.ex
  refine ⟨⟨v, ?_, ownsRow_setCell_below ho (by simp) y⟩, h.low.setCell (by simp) _⟩
  rw [setCell_eq_setRow w _ 165 _ _ _ _ hv, setRow_heap w _ _ _ _ _ hv, more_fore]
theorem Tryd.zTurn : (Tryd.prog.info? 66).map (fun i => (i.zero, i.size)) = some (some (.agg (zl.more [.int .i64 0] (.slice none 0 0))), 167) := by kernel_rfl
theorem Tryd.pTurn : (Tryd.prog.fieldsOf 66).toList.mapM (fun f => (Tryd.prog.info? f.type).map fun i => (f.offset, i.size)) = some [(0, 165), (165, 1), (166, 1)] := by kernel_rfl
theorem built_turn_of (L : Ld) (rest : List (Nat × Value)) (r : Array Value) (h : Instr.fill (fun x => #[(0, 165), (165, 1), (166, 1)][x]?) (L.more [.int .i64 0] (.slice none 0 0)) rest = some r) : Tryd.prog.built 66 ((0, .agg L.cells) :: rest) = some r := by
  obtain ⟨hz, hs⟩ := zero_of_info Tryd.zTurn
  cases hi : Tryd.prog.info? 66 with
  | none => rw [hi] at hs; simp at hs
  | some it =>
    have hz' : it.zero = some (.agg (zl.more [.int .i64 0] (.slice none 0 0))) := by
      have := Tryd.zTurn
      rw [hi] at this
      simp at this
      exact this.1
    have hu : Tryd.prog.underlying 66 = some (.struct (Tryd.prog.fieldsOf 66)) := by simp [Program.fieldsOf, Tryd.underlying66]
    unfold Program.built
    simp only [hi, hu, hz', Tryd.pTurn]
    rw [← h]
    refine fill_land L [.int .i64 0] (.slice none 0 0) _ ?_ rest
    rfl
theorem built_turn (L : Ld) : Tryd.prog.built 66 [(0, .agg L.cells)] = some (L.more [.int .i64 0] (.slice none 0 0)) := built_turn_of L [] _ rfl
theorem built_turn_at (L : Ld) (b : Int) : Tryd.prog.built 66 [(0, .agg L.cells), (1, .int .i64 b)] = some (L.more [.int .i64 b] (.slice none 0 0)) := by
  refine built_turn_of L _ _ ?_
  have hc : (Value.int .i64 b).cells = #[.int .i64 b] := rfl
  have hp : (#[(0, 165), (165, 1), (166, 1)] : Array (Nat × Nat))[1]? = some (165, 1) := rfl
  simp only [Instr.fill, hp, hc]
  rw [if_neg (by simp [more_size])]
  rw [← Array.foldl_toList, Array.toList_zipIdx]
  simp only [List.zipIdx_cons, List.zipIdx_nil, List.foldl_cons, List.foldl_nil, Nat.add_zero]
  rw [more_fore]
theorem tn_start (L : Ld) (x : Value) (w0 : World) : Sn 66 [x] w0 L [] (w0.alloc (.cells (L.more [x] (.slice none 0 0)) 66)) :=
  ⟨⟨_, heap_alloc_new w0 _, World.ownsRow_nil _ _ _ _⟩, below_box w0 _⟩
theorem Ld.more_one1 (L : Ld) (b : Int) : (L.more [.int .i64 b] (.slice none 0 0)).all (·.oneCell') = true := by
  unfold Ld.more
  rw [Array.all_append, land_one]; simp [Value.oneCell']
theorem Tryd.sizeTurn : (Tryd.prog.info? 66).map (·.size) = some 167 := by kernel_rfl
theorem Sn.beingR {T : TypeId} {pre : List Value} {w0 w : World} {L : Ld} {Es : List Ev} (h : Sn T pre w0 L Es w) (k : Nat) (hk : k < 6) : w.rangeAt w0.heap.size (129 + k * 6) (L.bcells k).toList := by
  intro j v hv
  have hj : j < 6 := by
    have := (List.getElem?_eq_some_iff.1 hv).1; simpa [Ld.bcells] using this
  rw [h.being k j hk hj, ← hv, Array.getElem?_toList, L.bcells_get k j hj]
/-- What the last region's loads read: the land, and the row. -/
structure Ht (g : Nat) (L : Ld) (v : Value) (W : World) : Prop where
  land : W.rangeAt g 0 L.cells.toList
  row : W.cell? ⟨g, 166, none⟩ = some v
theorem Ht.setRow {g k : Nat} {L : Ld} {v : Value} {W : World} (h : Ht g L v W) (hk : g ≠ k) {cs : Array Value} : Ht g L v (W.setRow k cs) := by
  have e := setRow_off W k g cs hk
  exact ⟨fun j x hx => by rw [← h.land j x hx]; simp only [World.cell?, e], by rw [← h.row]; simp only [World.cell?, e]⟩
/-- What the document's turn adds is the program's event. -/
theorem add_evN (L : Ld) (b : Nat) (kind : Int) : addE L b kind (-1) 0 0 ⟨#[]⟩ ⟨#[]⟩ ⟨#[]⟩ = evN L kind b := rfl
end Go.Proofs.YtaifjndkgfffpaaDoor
