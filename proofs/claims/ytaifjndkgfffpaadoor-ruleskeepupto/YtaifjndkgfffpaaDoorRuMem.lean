/-
  A land that is changed step by step and the row of what happened, in a block of their own: what it means that they lie there, and what turns with a step.
-/
import Derived.Test.YtaifjndkgfffpaaDoorMgAJ
namespace Go.Proofs.YtaifjndkgfffpaaDoor
open Go.RowKit
set_option linter.unusedVariables false

/-- Events' cells, one behind another. -/
def evc (Es : List Ev) : List Value := Es.flatMap fun E => E.cells.toList
theorem evc_len (Es : List Ev) : (evc Es).length = Es.length * 16 := by
  induction Es with
  | nil => rfl
  | cons E Es ih =>
    simp only [evc, List.flatMap_cons, List.length_append, List.length_cons] at ih ⊢
    rw [ih, Array.length_toList, Ev.size]; omega
theorem evc_snoc (Es : List Ev) (E : Ev) : evc (Es ++ [E]) = evc Es ++ E.cells.toList := by simp [evc]

/-- A land's cells, some more, and the row. -/
def Ld.more (L : Ld) (pre : List Value) (v : Value) : Array Value := L.cells ++ (pre ++ [v]).toArray
section
variable (L : Ld) (pre : List Value) (v : Value)
theorem more_size : (L.more pre v).size = 166 + pre.length := by simp [Ld.more, L.size]; omega
theorem more_get (n : Nat) (hn : n < 165) : (L.more pre v)[n]? = some (L.cellAt n) := by
  unfold Ld.more
  rw [Array.getElem?_append_left (by rw [L.size]; exact hn), L.get n hn]
theorem more_pre (j : Nat) (hj : j < pre.length) : (L.more pre v)[165 + j]? = pre[j]? := by
  unfold Ld.more
  rw [Array.getElem?_append_right (by rw [L.size]; omega), L.size, Nat.add_sub_cancel_left, List.getElem?_toArray, List.getElem?_append_left hj]
theorem more_row : (L.more pre v)[165 + pre.length]? = some v := by
  unfold Ld.more
  rw [Array.getElem?_append_right (by rw [L.size]; omega), L.size]
  simp
theorem more_set {n : Nat} {x : Value} {L' : Ld} (hn : n < 165) (h : ∀ m, m < 165 → L'.cellAt m = if m = n then x else L.cellAt m) : (L.more pre v).setIfInBounds n x = L'.more pre v := by
  apply Array.ext_getElem?
  intro m
  rw [Array.getElem?_setIfInBounds]
  by_cases hm : m < 165
  · rw [more_get L' pre v m hm, h m hm]
    by_cases e : n = m
    · subst e; rw [if_pos rfl, if_pos (by rw [more_size]; omega), if_pos rfl]
    · rw [if_neg e, if_neg (fun h => e h.symm), more_get L pre v m hm]
  · rw [if_neg (by omega)]
    unfold Ld.more
    rw [Array.getElem?_append_right (by rw [L.size]; omega), Array.getElem?_append_right (by rw [L'.size]; omega), L.size, L'.size]
theorem more_put (u : Value) : (L.more pre v).setIfInBounds (165 + pre.length) u = L.more pre u := by
  apply Array.ext_getElem?
  intro m
  rw [Array.getElem?_setIfInBounds]
  by_cases e : 165 + pre.length = m
  · subst e; rw [if_pos rfl, if_pos (by rw [more_size]; omega), more_row]
  · rw [if_neg e]
    unfold Ld.more
    by_cases hm : m < 165
    · rw [Array.getElem?_append_left (by rw [L.size]; exact hm), Array.getElem?_append_left (by rw [L.size]; exact hm)]
    · rw [Array.getElem?_append_right (by rw [L.size]; omega), Array.getElem?_append_right (by rw [L.size]; omega), L.size]
      simp only [List.getElem?_toArray]
      by_cases hp : m - 165 < pre.length
      · rw [List.getElem?_append_left hp, List.getElem?_append_left hp]
      · rw [List.getElem?_eq_none (by simp; omega), List.getElem?_eq_none (by simp; omega)]
end

/-- The block of the row. -/
def rowB (w : World) (g o : Nat) : Option Nat := match w.cell? ⟨g, o, none⟩ with
  | some v => v.ownBlock
  | none => none

/-- A step: only that block, the row's, and new ones have turned; the row is where it was, or in a new block. -/
structure Stp (g o : Nat) (w w' : World) : Prop where
  os : w'.os = w.os
  tape : w'.tape = w.tape
  output : w'.output = w.output
  size : w.heap.size ≤ w'.heap.size
  block : ∀ k, k < w.heap.size → k ≠ g → rowB w g o ≠ some k → w'.heap[k]? = w.heap[k]?
  row : rowB w' g o = rowB w g o ∨ ∃ k, rowB w' g o = some k ∧ w.heap.size ≤ k

/-- A block that no step turns. -/
structure Kept (g o : Nat) (w : World) (k : Nat) : Prop where
  lt : k < w.heap.size
  ne : k ≠ g
  off : rowB w g o ≠ some k

section
variable {g o : Nat} {w w' w'' : World}
theorem Stp.refl (g o : Nat) (w : World) : Stp g o w w := ⟨rfl, rfl, rfl, Nat.le_refl _, fun _ _ _ _ => rfl, .inl rfl⟩
theorem Stp.kept (h : Stp g o w w') {k : Nat} (hk : Kept g o w k) : Kept g o w' k ∧ w'.heap[k]? = w.heap[k]? := by
  refine ⟨⟨Nat.lt_of_lt_of_le hk.lt h.size, hk.ne, ?_⟩, h.block k hk.lt hk.ne hk.off⟩
  rcases h.row with e | ⟨j, e, hj⟩
  · rw [e]; exact hk.off
  · rw [e]; intro e2; injection e2 with e2; have := hk.lt; omega
theorem Stp.trans (h : Stp g o w w') (k : Stp g o w' w'') : Stp g o w w'' := by
  refine ⟨k.os.trans h.os, k.tape.trans h.tape, k.output.trans h.output, Nat.le_trans h.size k.size, fun i hi hg hr => ?_, ?_⟩
  · have := h.kept ⟨hi, hg, hr⟩
    rw [k.block i this.1.lt hg this.1.off, this.2]
  · rcases k.row with e | ⟨j, e, hj⟩
    · rw [e]; exact h.row
    · exact .inr ⟨j, e, Nat.le_trans h.size hj⟩
theorem rowB_same (h : w'.heap[g]? = w.heap[g]?) : rowB w' g o = rowB w g o := by simp only [rowB, World.cell?, h]
theorem Stp.below (hb : Below w.heap.size w w') (hg : g < w.heap.size) : Stp g o w w' :=
  ⟨hb.os, hb.tape, hb.output, hb.size, fun k hk _ _ => hb.block k hk, .inl (rowB_same (hb.block g hg))⟩
end

/-- In world w, the block that was made at w0's end holds that land and that row; what was there in w0 is as it was. -/
structure Sn (T : TypeId) (pre : List Value) (w0 : World) (L : Ld) (Es : List Ev) (w : World) : Prop where
  ex : ∃ v, w.heap[w0.heap.size]? = some (.cells (L.more pre v) T (0, 0)) ∧ w.ownsRow (w0.heap.size + 1) 52 16 v Es.length (evc Es)
  low : Below w0.heap.size w0 w

section
variable {T : TypeId} {pre : List Value} {w0 w w' : World} {L L' : Ld} {Es : List Ev}
theorem Sn.lt (h : Sn T pre w0 L Es w) : w0.heap.size < w.heap.size := by
  obtain ⟨v, hv, _⟩ := h.ex
  exact (Array.getElem?_eq_some_iff.1 hv).1
theorem Sn.cell (h : Sn T pre w0 L Es w) (n : Nat) (hn : n < 165) : w.cell? ⟨w0.heap.size, n, none⟩ = some (L.cellAt n) := by
  obtain ⟨v, hv, _⟩ := h.ex
  rw [cell_of_row w _ n _ _ _ hv, more_get L pre v n hn]
theorem Sn.soft (h : Sn T pre w0 L Es w) (n : Nat) : w.frozen? ⟨w0.heap.size, n, none⟩ = false := by
  obtain ⟨v, hv, _⟩ := h.ex
  simp only [World.frozen?, hv]; simp
theorem Sn.fore (h : Sn T pre w0 L Es w) (j : Nat) (hj : j < pre.length) : w.cell? ⟨w0.heap.size, 165 + j, none⟩ = some pre[j] := by
  obtain ⟨v, hv, _⟩ := h.ex
  rw [cell_of_row w _ _ _ _ _ hv, more_pre L pre v j hj]; simp [hj]
theorem Sn.thing (h : Sn T pre w0 L Es w) (i j : Nat) (hi : i < 9) (hj : j < 5) : w.cell? ⟨w0.heap.size, 84 + i * 5 + j, none⟩ = some (L.thingCell i j) := by
  rw [h.cell _ (by omega), L.at_thing i j hi hj]
theorem Sn.being (h : Sn T pre w0 L Es w) (i j : Nat) (hi : i < 6) (hj : j < 6) : w.cell? ⟨w0.heap.size, 129 + i * 6 + j, none⟩ = some (L.beingCell i j) := by
  rw [h.cell _ (by omega), L.at_being i j hi hj]
theorem Sn.room (h : Sn T pre w0 L Es w) (r j : Nat) (hr : r < 6) (hj : j < 14) : w.cell? ⟨w0.heap.size, r * 14 + j, none⟩ = some (L.roomCell r j) := by
  rw [h.cell _ (by omega), L.at_room r j hr hj]
theorem own_below {base n : Nat} {v : Value} {xs : List Value} (h : w.ownsRow base 52 16 v n xs) (hb : Below w.heap.size w w') : w'.ownsRow base 52 16 v n xs := by
  refine ⟨h.1, ?_⟩
  rcases h.2 with hn | ⟨g, cap, cur, rfl, h1, h2, h3⟩
  · exact .inl hn
  · exact .inr ⟨g, cap, cur, rfl, h1, by rw [hb.block _ (Array.getElem?_eq_some_iff.1 h2).1]; exact h2, h3⟩
theorem Sn.below (h : Sn T pre w0 L Es w) (hb : Below w.heap.size w w') : Sn T pre w0 L Es w' := by
  obtain ⟨v, hv, ho⟩ := h.ex
  exact ⟨⟨v, by rw [hb.block _ h.lt]; exact hv, own_below ho hb⟩, h.low.trans (hb.mono h.low.size)⟩
theorem Sn.alloc (h : Sn T pre w0 L Es w) (o : Obj) : Sn T pre w0 L Es (w.alloc o) := h.below ((Below.refl _ _).alloc (Nat.le_refl _) _)
theorem Sn.drew (h : Sn T pre w0 L Es w) : Sn T pre w0 L Es w.drew := h.below ⟨rfl, rfl, rfl, Nat.le_refl _, fun _ _ => rfl⟩
theorem Sn.drewN (h : Sn T pre w0 L Es w) (n : Nat) : Sn T pre w0 L Es (w.drewN n) := h.below ⟨rfl, rfl, rfl, Nat.le_refl _, fun _ _ => rfl⟩
theorem Sn.stp (h : Sn T pre w0 L Es w) (hb : Below w.heap.size w w') (o : Nat) : Stp w0.heap.size o w w' := Stp.below hb h.lt
theorem Sn.same (h : Sn T pre w0 L Es w) (e : L.cells = L'.cells) : Sn T pre w0 L' Es w := by
  obtain ⟨v, hv, ho⟩ := h.ex
  exact ⟨⟨v, by rw [hv]; simp only [Ld.more, e], ho⟩, h.low⟩
theorem Sn.rowLt (h : Sn T pre w0 L Es w) {k : Nat} (hk : rowB w w0.heap.size (165 + pre.length) = some k) : w0.heap.size < k ∧ k < w.heap.size := by
  obtain ⟨v, hv, ho⟩ := h.ex
  have hc : w.cell? ⟨w0.heap.size, 165 + pre.length, none⟩ = some v := by rw [cell_of_row w _ _ _ _ _ hv, more_row]
  simp only [rowB, hc] at hk
  have := ho.lt k hk
  omega
/-- What is made behind is kept. -/
theorem Sn.kept (h : Sn T pre w0 L Es w) (hb : Below w.heap.size w w') {k : Nat} (hk : w.heap.size ≤ k) (hk' : k < w'.heap.size) : Kept w0.heap.size (165 + pre.length) w' k := by
  have h' := h.below hb
  refine ⟨hk', by have := h.lt; omega, fun e => ?_⟩
  have e2 : rowB w' w0.heap.size (165 + pre.length) = rowB w w0.heap.size (165 + pre.length) := rowB_same (hb.block _ h.lt)
  rw [e2] at e
  have := h.rowLt e
  omega
/-- A cell of the land is set. -/
theorem Sn.set (h : Sn T pre w0 L Es w) {n : Nat} {x : Value} (hn : n < 165) (hL : ∀ m, m < 165 → L'.cellAt m = if m = n then x else L.cellAt m) : Sn T pre w0 L' Es (w.setCell ⟨w0.heap.size, n, none⟩ x) := by
  obtain ⟨v, hv, ho⟩ := h.ex
  refine ⟨⟨v, ?_, ownsRow_setCell_below ho (by simp) x⟩, h.low.setCell (by simp) _⟩
  rw [setCell_eq_setRow w _ n _ _ _ _ hv, setRow_heap w _ _ _ _ _ hv, more_set L pre v hn hL]
theorem Stp.put {g o n : Nat} {x : Value} (hn : n ≠ o) : Stp g o w (w.setCell ⟨g, n, none⟩ x) := by
  refine ⟨rfl, rfl, rfl, by simp [World.setCell], fun k _ hk _ => Below.heap_setCell _ _ _ _ (by simpa using hk), .inl ?_⟩
  simp only [rowB]
  rw [World.cell?_setCell_other _ _ _ _ (by intro e; injection e with e1 e2; exact hn e2)]
theorem Sn.step (h : Sn T pre w0 L Es w) {n : Nat} (hn : n < 165) (x : Value) : Stp w0.heap.size (165 + pre.length) w (w.setCell ⟨w0.heap.size, n, none⟩ x) := Stp.put (by omega)
/-- The row is longer by one. -/
theorem Sn.append (h : Sn T pre w0 L Es w) {v u : Value} {E : Ev} (hv : w.heap[w0.heap.size]? = some (.cells (L.more pre v) T (0, 0))) (ho : w'.ownsRow (w0.heap.size + 1) 52 16 u (Es.length + 1) (evc Es ++ E.cells.toList))
    (hrow : w.ownsRow (w0.heap.size + 1) 52 16 v Es.length (evc Es)) (hg : w.grownBy w' v.ownBlock) (hu : u.ownBlock = v.ownBlock ∨ u.ownBlock = some w.heap.size) :
    Sn T pre w0 L (Es ++ [E]) (w'.setCell ⟨w0.heap.size, 165 + pre.length, none⟩ u) ∧ Stp w0.heap.size (165 + pre.length) w (w'.setCell ⟨w0.heap.size, 165 + pre.length, none⟩ u) := by
  have hlt := h.lt
  have hb : Below (w0.heap.size + 1) w w' := (Below.refl _ _ : Below (w0.heap.size + 1) w w).grown hg (by omega) (fun k hk => (hrow.lt k (by simpa using hk)).1)
  have hv' : w'.heap[w0.heap.size]? = some (.cells (L.more pre v) T (0, 0)) := by rw [hb.block _ (by omega)]; exact hv
  have hN : (w'.setCell ⟨w0.heap.size, 165 + pre.length, none⟩ u).heap[w0.heap.size]? = some (.cells (L.more pre u) T (0, 0)) := by
    rw [setCell_eq_setRow w' _ _ _ _ _ _ hv', setRow_heap w' _ _ _ _ _ hv', more_put]
  have hc : (w'.setCell ⟨w0.heap.size, 165 + pre.length, none⟩ u).cell? ⟨w0.heap.size, 165 + pre.length, none⟩ = some u := by rw [cell_of_row _ _ _ _ _ _ hN, more_row]
  have hc0 : w.cell? ⟨w0.heap.size, 165 + pre.length, none⟩ = some v := by rw [cell_of_row _ _ _ _ _ _ hv, more_row]
  refine ⟨⟨⟨u, hN, ?_⟩, (h.low.trans (hb.mono (by omega))).setCell (by simp) _⟩, ?_⟩
  · have e1 : (Es ++ [E]).length = Es.length + 1 := by simp
    rw [e1, evc_snoc]
    exact ownsRow_setCell_below ho (by simp) u
  · refine ⟨hb.os, hb.tape, hb.output, by simp [World.setCell]; exact hb.size, fun k hk hne hr => ?_, ?_⟩
    · rw [Below.heap_setCell _ _ _ _ (by simpa using hne)]
      refine hg.block k hk ?_
      simp only [rowB, hc0] at hr
      exact fun e => hr e.symm
    · simp only [rowB, hc, hc0]
      rcases hu with e | e
      · exact .inl e
      · exact .inr ⟨_, e, Nat.le_refl _⟩
/-- What was kept is kept, and is as it was. -/
theorem Kept.cev {g o k : Nat} {E : Ev} (h : Kept g o w k) (hs : Stp g o w w') (hc : Cev w k E) : Cev w' k E := by
  unfold Cev at hc ⊢; rw [(hs.kept h).2]; exact hc
theorem Sn.land (h : Sn T pre w0 L Es w) : w.rangeAt w0.heap.size 0 L.cells.toList := by
  intro j v hv
  have hj : j < 165 := by
    have := (List.getElem?_eq_some_iff.1 hv).1; rw [Array.length_toList, L.size] at this; exact this
  rw [Nat.zero_add, h.cell j hj, ← hv, Array.getElem?_toList, L.get j hj]
end

/-- The whole land is read out of such a block. -/
theorem wl_scene {ops : Array Oper} {rest : List Oper} {op : Oper} {a : Act} {w : World} {Q : Exit → Act → World → Prop} (x : Operand) (ho : op.op = .load 34 x) (hw : Region.wanted op (yielded ops a.tmps) = true) {T : TypeId} {pre : List Value} {w0 : World} {L : Ld} {Es : List Ev}
    (hx : a.eval x = .pointer (some ⟨w0.heap.size, 0, none⟩)) (hc : Sn T pre w0 L Es w) (h : wpList Tryd.prog ops Q rest (a.put op.dst (.agg L.cells)) w) : wpList Tryd.prog ops Q (op :: rest) a w :=
  wl_mid 34 x ho hw w0.heap.size 0 L.cells.toList _ hx hc.land Tryd.underlying34 rfl (by rw [Array.length_toList, L.size]; exact Tryd.sizeLand) (by rw [Array.toArray_toList]; exact h)
theorem exec_scene {a : Act} {op : Oper} {w : World} (x : Operand) (ho : op.op = .load 34 x) {T : TypeId} {pre : List Value} {w0 : World} {L : Ld} {Es : List Ev} (hx : a.eval x = .pointer (some ⟨w0.heap.size, 0, none⟩)) (hc : Sn T pre w0 L Es w) :
    (execOp a.eval op).run Tryd.prog w = .ok (.value (.agg L.cells)) w := by
  have hl : (Instr.loadAt 34 (.pointer (some ⟨w0.heap.size, 0, none⟩))).run Tryd.prog w = .ok (.agg L.cells) w := by
    simp only [Instr.loadAt, Instr.sureAddr, Sem.run_bind, Sem.run_pure, Result.andThen_ok]
    have := run_loadVar_mid (P := Tryd.prog) w w0.heap.size 0 34 L.cells.toList _ hc.land Tryd.underlying34 rfl (by rw [Array.length_toList, L.size]; exact Tryd.sizeLand)
    rw [Array.toArray_toList] at this; exact this
  unfold execOp
  simp only [ho, hx, Sem.run_bind, hl, Result.andThen_ok, Sem.run_pure]
end Go.Proofs.YtaifjndkgfffpaaDoor
