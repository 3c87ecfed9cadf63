/-
  Blocks that are written over.
-/
import Derived.Test.YtncgcejlkmoliaaGreatDoorLdArm
namespace Go.Proofs.YtncgcejlkmoliaaGreatDoor.Ho
open Go.RowKit
set_option linter.unusedVariables false

/-! ### A piece of a block is written over. -/
/-- Only block k has turned. -/
structure Upd (k : Nat) (w w' : World) : Prop where
  os : w'.os = w.os
  tape : w'.tape = w.tape
  output : w'.output = w.output
  size : w'.heap.size = w.heap.size
  block : ∀ j, j ≠ k → w'.heap[j]? = w.heap[j]?

theorem Upd.refl (k : Nat) (w : World) : Upd k w w := ⟨rfl, rfl, rfl, rfl, fun _ _ => rfl⟩
theorem Upd.trans {k : Nat} {a b c : World} (h : Upd k a b) (g : Upd k b c) : Upd k a c :=
  ⟨g.os.trans h.os, g.tape.trans h.tape, g.output.trans h.output, g.size.trans h.size, fun j hj => (g.block j hj).trans (h.block j hj)⟩
theorem upd_set (w : World) (k o : Nat) (v : Value) : Upd k w (w.setCell ⟨k, o, none⟩ v) :=
  ⟨rfl, rfl, rfl, by simp [World.setCell], fun j hj => Below.heap_setCell _ _ _ _ (by simpa using hj)⟩
theorem Upd.below {k B : Nat} {a w w' : World} (h : Below B a w) (g : Upd k w w') (hk : B ≤ k) : Below B a w' :=
  ⟨g.os.trans h.os, g.tape.trans h.tape, g.output.trans h.output, by rw [g.size]; exact h.size, fun j hj => by rw [g.block j (by omega)]; exact h.block j hj⟩

def over (cs : Array Value) : Nat → List Value → Array Value
  | _, [] => cs
  | o, v :: r => over (cs.setIfInBounds o v) (o + 1) r
theorem over_size (vs : List Value) : ∀ (cs : Array Value) (o : Nat), (over cs o vs).size = cs.size := by
  induction vs with
  | nil => intro cs o; rfl
  | cons v r ih => intro cs o; simp only [over]; rw [ih]; simp
theorem over_heap (k : Nat) (T : TypeId) (vs : List Value) : ∀ (w : World) (cs : Array Value) (o : Nat), w.heap[k]? = some (.cells cs T (0, 0)) → (w.setCells k o vs).heap[k]? = some (.cells (over cs o vs) T (0, 0)) := by
  induction vs with
  | nil => intro w cs o h; exact h
  | cons v r ih => intro w cs o h; exact ih _ _ _ (heap_setCell_same w k o cs T v h)
theorem over_upd (k : Nat) (vs : List Value) : ∀ (w : World) (o : Nat), Upd k w (w.setCells k o vs) := by
  induction vs with
  | nil => intro w o; exact Upd.refl k w
  | cons v r ih => intro w o; exact (upd_set w k o v).trans (ih _ _)
theorem there_of {w : World} {k o n : Nat} {cs : Array Value} {T : TypeId} (h : w.heap[k]? = some (.cells cs T (0, 0))) (hn : o + n ≤ cs.size) : w.there k o n := by
  intro j hj
  refine ⟨?_, by simp [World.frozen?, h]⟩
  have hlt : o + j < cs.size := by omega
  simp [World.cell?, h, hlt]
theorem range_of {w : World} {k o : Nat} {cs : Array Value} {T : TypeId} {vs : List Value} (h : w.heap[k]? = some (.cells cs T (0, 0))) (hv : ∀ j v, vs[j]? = some v → cs[o + j]? = some v) : w.rangeAt k o vs := by
  intro j v hj
  simp [World.cell?, h, hv j v hj]

section
variable {P : Program} {ops : Array Oper} {rest : List Oper} {op : Oper} {a : Act} {w : World} {Q : Exit → Act → World → Prop}
/-- A struct is stored into a piece of a block. -/
theorem wl_over (ty : TypeId) (x y : Operand) (ho : op.op = .store ty x y) (hw : Region.wanted op (yielded ops a.tmps) = true) (k o : Nat) (vs cs new : Array Value) (T : TypeId)
    (hx : a.eval x = .pointer (some ⟨k, o, none⟩)) (hy : a.eval y = .agg vs) (hg : w.heap[k]? = some (.cells cs T (0, 0))) (hb : o + vs.size ≤ cs.size) (hi : (P.info? ty).map (·.size) = some vs.size)
    (h1 : vs.all (·.oneCell') = true) (hn : over cs o vs.toList = new)
    (h : ∀ W, W.heap[k]? = some (.cells new T (0, 0)) → Upd k w W → wpList P ops Q rest (a.put op.dst undef) W) : wpList P ops Q (op :: rest) a w :=
  wl_wanted hw (wp_store_mid ty x y ho k o vs hx hy (there_of hg hb) hi h1 (h _ (by rw [← hn]; exact over_heap k T _ w cs o hg) (over_upd k _ w o)))
theorem cells_one {v : Value} (h : v.oneCell' = true) : v.cells = #[v] := by
  cases v <;> first | rfl | (simp [Value.oneCell'] at h)
/-- A value of one cell is stored into a block. -/
theorem wl_over1 (ty : TypeId) (x y : Operand) (ho : op.op = .store ty x y) (hw : Region.wanted op (yielded ops a.tmps) = true) (k o : Nat) (v : Value) (cs new : Array Value) (T : TypeId)
    (hx : a.eval x = .pointer (some ⟨k, o, none⟩)) (hy : a.eval y = v) (hg : w.heap[k]? = some (.cells cs T (0, 0))) (hb : o < cs.size) (hi : (P.info? ty).map (·.size) = some 1)
    (h1 : v.oneCell' = true) (hn : cs.setIfInBounds o v = new)
    (h : ∀ W, W.heap[k]? = some (.cells new T (0, 0)) → Upd k w W → wpList P ops Q rest (a.put op.dst undef) W) : wpList P ops Q (op :: rest) a w := by
  refine wl_wanted hw ?_
  have ht := there_of (n := 1) (o := o) hg (by omega)
  have hr : (storeVar ty ⟨k, o, none⟩ v).run P w = .ok () (w.setCells k o [v]) := by
    have := run_storeCells_cells (P := P) k o [v] 0 w (fun j hj => by simpa using (ht j (by simpa using hj)).1) (fun j hj => by simpa using (ht j (by simpa using hj)).2) (fun u hu => by simp at hu; subst hu; exact h1)
    cases hq : P.info? ty with
    | none => simp [hq] at hi
    | some i =>
      have hs : 1 = i.size := by simp [hq] at hi; omega
      simp only [Nat.add_zero] at this
      simp [storeVar, sizeOf, typeInfo, hq, cells_one h1, ← hs, this]
  unfold Oper.wp execOp
  simp only [ho, hx, hy, Instr.storeAt, Instr.sureAddr, Sem.run_bind, Sem.run_pure, Result.andThen_ok, hr]
  exact h _ (by rw [← hn]; exact over_heap k T [v] w cs o hg) (over_upd k [v] w o)
end

theorem over_get (vs : List Value) : ∀ (cs : Array Value) (o n : Nat), (over cs o vs)[n]? = if o ≤ n ∧ n < o + vs.length ∧ n < cs.size then vs[n - o]? else cs[n]? := by
  induction vs with
  | nil => intro cs o n; simp only [over, List.length_nil]; rw [if_neg (by omega)]
  | cons v r ih =>
    intro cs o n
    simp only [over, List.length_cons]
    rw [ih, Array.size_setIfInBounds]
    by_cases h : o = n
    · subst h
      rw [if_neg (by omega), Array.getElem?_setIfInBounds]
      by_cases hs : o < cs.size
      · rw [if_pos rfl, if_pos hs, if_pos ⟨by omega, by omega, hs⟩]; simp
      · rw [if_pos rfl, if_neg hs, if_neg (by omega), Array.getElem?_eq_none (by omega)]
    · by_cases h2 : o ≤ n ∧ n < o + (r.length + 1) ∧ n < cs.size
      · rw [if_pos h2, if_pos ⟨by omega, by omega, h2.2.2⟩]
        have e : n - o = (n - (o + 1)) + 1 := by omega
        rw [e, List.getElem?_cons_succ]
      · rw [if_neg h2, if_neg (by omega), Array.getElem?_setIfInBounds, if_neg h]
theorem over_whole {cs vs : Array Value} (h : cs.size = vs.size) : over cs 0 vs.toList = vs := by
  apply Array.ext_getElem?
  intro n
  rw [over_get, Array.length_toList, Nat.zero_add, Nat.sub_zero, Array.getElem?_toList]
  by_cases hn : n < vs.size
  · rw [if_pos ⟨Nat.zero_le _, hn, by omega⟩]
  · rw [if_neg (by omega), Array.getElem?_eq_none (by omega), Array.getElem?_eq_none (by omega)]
end Go.Proofs.YtncgcejlkmoliaaGreatDoor.Ho
