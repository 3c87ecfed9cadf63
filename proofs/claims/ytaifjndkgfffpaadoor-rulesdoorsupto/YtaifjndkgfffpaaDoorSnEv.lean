/-
  Events in memory: what one holds, and its sixteen cells.
-/
import Derived.Test.YtaifjndkgfffpaaDoorMgAF
namespace Go.Proofs.YtaifjndkgfffpaaDoor
open Go.RowKit
set_option linter.unusedVariables false

/-- An event. -/
structure Ev where
  kind : Int
  room : Int
  actor : Int
  other : Int
  dir : Int
  num : Int
  who : ByteArray
  whom : ByteArray
  thing : ByteArray
  text : ByteArray
  by' : Nat → Int

namespace Ev
variable (E : Ev)
def cells : Array Value := #[.int .i64 E.kind, .int .i64 E.room, .int .i64 E.actor, .int .i64 E.other, .int .i64 E.dir, .int .i64 E.num, .string E.who, .string E.whom, .string E.thing, .string E.text,
  .int .i64 (E.by' 0), .int .i64 (E.by' 1), .int .i64 (E.by' 2), .int .i64 (E.by' 3), .int .i64 (E.by' 4), .int .i64 (E.by' 5)]
theorem size : E.cells.size = 16 := rfl
theorem get_by (k : Nat) (hk : k < 6) : E.cells[10 + k]? = some (.int .i64 (E.by' k)) := by
  match k, hk with
  | 0, _ => rfl
  | 1, _ => rfl
  | 2, _ => rfl
  | 3, _ => rfl
  | 4, _ => rfl
  | 5, _ => rfl
theorem one : E.cells.all (·.oneCell') = true := by simp [cells, Value.oneCell']
/-- What is perceived by one is set. -/
def setBy (k : Nat) (x : Int) : Ev := { E with by' := fun j => if j = k then x else E.by' j }
theorem set_by (k : Nat) (hk : k < 6) (x : Int) : E.cells.setIfInBounds (10 + k) (.int .i64 x) = (E.setBy k x).cells := by
  match k, hk with
  | 0, _ => rfl
  | 1, _ => rfl
  | 2, _ => rfl
  | 3, _ => rfl
  | 4, _ => rfl
  | 5, _ => rfl
theorem ext_by {F : Ev} (h : ∀ j, j < 6 → E.by' j = F.by' j) (h1 : E.kind = F.kind) (h2 : E.room = F.room) (h3 : E.actor = F.actor) (h4 : E.other = F.other) (h5 : E.dir = F.dir) (h6 : E.num = F.num)
    (h7 : E.who = F.who) (h8 : E.whom = F.whom) (h9 : E.thing = F.thing) (h10 : E.text = F.text) : E.cells = F.cells := by
  unfold cells
  rw [h 0 (by omega), h 1 (by omega), h 2 (by omega), h 3 (by omega), h 4 (by omega), h 5 (by omega), h1, h2, h3, h4, h5, h6, h7, h8, h9, h10]
end Ev

/-- Block b holds the event E. -/
def Cev (w : World) (b : Nat) (E : Ev) : Prop := w.heap[b]? = some (.cells E.cells 52 (0, 0))

theorem Tryd.sizeEvent : (Tryd.prog.info? 52).map (·.size) = some 16 := by kernel_rfl

section
variable {w w' : World} {b : Nat} {E : Ev}
theorem Cev.lt (h : Cev w b E) : b < w.heap.size := (Array.getElem?_eq_some_iff.1 h).1
theorem Cev.cell (h : Cev w b E) {n : Nat} {v : Value} (hv : E.cells[n]? = some v) : w.cell? ⟨b, n, none⟩ = some v := by
  unfold Cev at h; rw [cell_of_row w b n _ _ _ h, hv]
theorem Cev.by' (h : Cev w b E) (k : Nat) (hk : k < 6) : w.cell? ⟨b, 10 + k, none⟩ = some (.int .i64 (E.by' k)) := h.cell (E.get_by k hk)
theorem Cev.kind (h : Cev w b E) : w.cell? ⟨b, 0, none⟩ = some (.int .i64 E.kind) := h.cell rfl
theorem Cev.room (h : Cev w b E) : w.cell? ⟨b, 1, none⟩ = some (.int .i64 E.room) := h.cell rfl
theorem Cev.actor (h : Cev w b E) : w.cell? ⟨b, 2, none⟩ = some (.int .i64 E.actor) := h.cell rfl
theorem Cev.othr (h : Cev w b E) : w.cell? ⟨b, 3, none⟩ = some (.int .i64 E.other) := h.cell rfl
theorem Cev.dir (h : Cev w b E) : w.cell? ⟨b, 4, none⟩ = some (.int .i64 E.dir) := h.cell rfl
theorem Cev.num (h : Cev w b E) : w.cell? ⟨b, 5, none⟩ = some (.int .i64 E.num) := h.cell rfl
theorem Cev.who (h : Cev w b E) : w.cell? ⟨b, 6, none⟩ = some (.string E.who) := h.cell rfl
theorem Cev.whom (h : Cev w b E) : w.cell? ⟨b, 7, none⟩ = some (.string E.whom) := h.cell rfl
theorem Cev.thing (h : Cev w b E) : w.cell? ⟨b, 8, none⟩ = some (.string E.thing) := h.cell rfl
theorem Cev.text (h : Cev w b E) : w.cell? ⟨b, 9, none⟩ = some (.string E.text) := h.cell rfl
theorem Cev.behind {B : Nat} (h : Cev w b E) (hb : Below B w w') (hB : w.heap.size ≤ B) : Cev w' b E := by
  have := h.lt
  unfold Cev; rw [hb.block _ (by omega)]; exact h
theorem Cev.alloc (h : Cev w b E) (o : Obj) : Cev (w.alloc o) b E := by
  unfold Cev; rw [Below.heap_alloc _ _ _ h.lt]; exact h
theorem Cev.put (h : Cev w b E) (k : Nat) (hk : k < 6) (x : Int) : Cev (w.setCell ⟨b, 10 + k, none⟩ (.int .i64 x)) b (E.setBy k x) := by
  unfold Cev at h ⊢
  rw [setCell_eq_setRow w b (10 + k) _ _ _ _ h, setRow_heap w b _ _ _ _ h, E.set_by k hk]
theorem Cev.other (h : Cev w b E) {c : Nat} (hc : b ≠ c) (o : Nat) (x : Value) : Cev (w.setCell ⟨c, o, none⟩ x) b E := by
  unfold Cev; rw [Below.heap_setCell _ _ _ _ hc]; exact h
theorem cev_new (w : World) (E : Ev) : Cev (w.alloc (.cells E.cells 52)) w.heap.size E := heap_alloc_new w _

end

section
variable {ops : Array Oper} {rest : List Oper} {op : Oper} {a : Act} {w : World} {Q : Exit → Act → World → Prop}
/-- The whole event is read. -/
theorem wl_event (x : Operand) (ho : op.op = .load 52 x) (hw : Region.wanted op (yielded ops a.tmps) = true) (b : Nat) (E : Ev)
    (hx : a.eval x = .pointer (some ⟨b, 0, none⟩)) (hc : Cev w b E) (h : wpList Tryd.prog ops Q rest (a.put op.dst (.agg E.cells)) w) : wpList Tryd.prog ops Q (op :: rest) a w :=
  wl_wanted hw (wp_load_row 52 x ho b hx 52 E.cells (0, 0) _ hc Tryd.underlying52 rfl (by rw [E.size]; exact Tryd.sizeEvent) h)
end
end Go.Proofs.YtaifjndkgfffpaaDoor
