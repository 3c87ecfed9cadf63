/-
  Events in memory: what one holds, and its sixteen cells.
-/
import Derived.Test.YtaifjndkgfffpaaDoorMgAE
namespace Go.Proofs.YtaifjndkgfffpaaDoor
open Go.RowKit
set_option linter.unusedVariables false

/-- An event. -/
structure Ev where
  kind : Int
  room : Int
  actor : Int
  other : Int
  dir : Int
  num : Int
  who : ByteArray
  whom : ByteArray
  thing : ByteArray
  text : ByteArray
  by' : Nat → Int

namespace Ev
variable (E : Ev)
def cells : Array Value := #[.int .i64 E.kind, .int .i64 E.room, .int .i64 E.actor, .int .i64 E.other, .int .i64 E.dir, .int .i64 E.num, .string E.who, .string E.whom, .string E.thing, .string E.text,
  .int .i64 (E.by' 0), .int .i64 (E.by' 1), .int .i64 (E.by' 2), .int .i64 (E.by' 3), .int .i64 (E.by' 4), .int .i64 (E.by' 5)]
theorem size : E.cells.size = 16 := rfl
theorem get_by (k : Nat) (hk : k < 6) : E.cells[10 + k]? = some (.int .i64 (E.by' k)) := by
  match k, hk with
  | 0, _ => rfl
  | 1, _ => rfl
  | 2, _ => rfl
  | 3, _ => rfl
  | 4, _ => rfl
  | 5, _ => rfl
theorem one : E.cells.all (·.oneCell') = true := by simp [cells, Value.oneCell']
/-- What is perceived by one is set. -/
def setBy (k : Nat) (x : Int) : Ev := { E with by' := fun j => if j = k then x else E.by' j }
theorem set_by (k : Nat) (hk : k < 6) (x : Int) : E.cells.setIfInBounds (10 + k) (.int .i64 x) = (E.setBy k x).cells := by
  match k, hk with
  | 0, _ => rfl
  | 1, _ => rfl
  | 2, _ => rfl
  | 3, _ => rfl
  | 4, _ => rfl
  | 5, _ => rfl
theorem ext_by {F : Ev} (h : ∀ j, j < 6 → E.by' j = F.by' j) (h1 : E.kind = F.kind) (h2 : E.room = F.room) (h3 : E.actor = F.actor) (h4 : E.other = F.other) (h5 : E.dir = F.dir) (h6 : E.num = F.num)
    (h7 : E.who = F.who) (h8 : E.whom = F.whom) (h9 : E.thing = F.thing) (h10 : E.text = F.text) : E.cells = F.cells := by
  unfold cells
  rw [h 0 (by omega), h 1 (by omega), h 2 (by omega), h 3 (by omega), h 4 (by omega), h 5 (by omega), h1, h2, h3, h4, h5, h6, h7, h8, h9, h10]
end Ev

/-- Block b holds the event E. -/
def Cev (w : World) (b : Nat) (E : Ev) : Prop := w.heap[b]? = some (.cells E.cells 52 (0, 0))

theorem Tryd.sizeEvent : (Tryd.prog.info? 52).map (·.size) = some 16 := by kernel_rfl

section
variable {w w' : World} {b : Nat} {E : Ev}
theorem Cev.lt (h : Cev w b E) : b < w.heap.size := (Array.getElem?_eq_some_iff.1 h).1
theorem Cev.cell (h : Cev w b E) {n : Nat} {v : Value} (hv : E.cells[n]? = some v) : w.cell? ⟨b, n, none⟩ = some v := by
  unfold Cev at h; rw [cell_of_row w b n _ _ _ h, hv]
theorem Cev.by' (h : Cev w b E) (k : Nat) (hk : k < 6) : w.cell? ⟨b, 10 + k, none⟩ = some (.int .i64 (E.by' k)) := h.cell (E.get_by k hk)
theorem Cev.kind (h : Cev w b E) : w.cell? ⟨b, 0, none⟩ = some (.int .i64 E.kind) := h.cell rfl
theorem Cev.room (h : Cev w b E) : w.cell? ⟨b, 1, none⟩ = some (.int .i64 E.room) := h.cell rfl
theorem Cev.actor (h : Cev w b E) : w.cell? ⟨b, 2, none⟩ = some (.int .i64 E.actor) := h.cell rfl
theorem Cev.othr (h : Cev w b E) : w.cell? ⟨b, 3, none⟩ = some (.int .i64 E.other) := h.cell rfl
theorem Cev.dir (h : Cev w b E) : w.cell? ⟨b, 4, none⟩ = some (.int .i64 E.dir) := h.cell rfl
theorem Cev.num (h : Cev w b E) : w.cell? ⟨b, 5, none⟩ = some (.int .i64 E.num) := h.cell rfl
theorem Cev.who (h : Cev w b E) : w.cell? ⟨b, 6, none⟩ = some (.string E.who) := h.cell rfl
theorem Cev.whom (h : Cev w b E) : w.cell? ⟨b, 7, none⟩ = some (.string E.whom) := h.cell rfl
theorem Cev.thing (h : Cev w b E) : w.cell? ⟨b, 8, none⟩ = some (.string E.thing) := h.cell rfl
theorem Cev.text (h : Cev w b E) : w.cell? ⟨b, 9, none⟩ = some (.string E.text) := h.cell rfl
theorem Cev.behind {B : Nat} (h : Cev w b E) (hb : Below B w w') (hB : w.heap.size ≤ B) : Cev w' b E := by
  have := h.lt
  unfold Cev; rw [hb.block _ (by omega)]; exact h
theorem Cev.alloc (h : Cev w b E) (o : Obj) : Cev (w.alloc o) b E := by
  unfold Cev; rw [Below.heap_alloc _ _ _ h.lt]; exact h
theorem Cev.put (h : Cev w b E) (k : Nat) (hk : k < 6) (x : Int) : Cev (w.setCell ⟨b, 10 + k, none⟩ (.int .i64 x)) b (E.setBy k x) := by
  unfold Cev at h ⊢
  rw [setCell_eq_setRow w b (10 + k) _ _ _ _ h, setRow_heap w b _ _ _ _ h, E.set_by k hk]
theorem Cev.other (h : Cev w b E) {c : Nat} (hc : b ≠ c) (o : Nat) (x : Value) : Cev (w.setCell ⟨c, o, none⟩ x) b E := by
  unfold Cev; rw [Below.heap_setCell _ _ _ _ hc]; exact h
theorem cev_new (w : World) (E : Ev) : Cev (w.alloc (.cells E.cells 52)) w.heap.size E := heap_alloc_new w _

end

section
variable {ops : Array Oper} {rest : List Oper} {op : Oper} {a : Act} {w : World} {Q : Exit → Act → World → Prop}
/-- The whole event is read. -/
theorem wl_event (x : Operand) (ho : op.op = .load 52 x) (hw : Region.wanted op (yielded ops a.tmps) = true) (b : Nat) (E : Ev)
    (hx : a.eval x = .pointer (some ⟨b, 0, none⟩)) (hc : Cev w b E) (h : wpList Tryd.prog ops Q rest (a.put op.dst (.agg E.cells)) w) : wpList Tryd.prog ops Q (op :: rest) a w :=
  wl_wanted hw (wp_load_row 52 x ho b hx 52 E.cells (0, 0) _ hc Tryd.underlying52 rfl (by rw [E.size]; exact Tryd.sizeEvent) h)
end
end Go.Proofs.YtaifjndkgfffpaaDoor
/-
  More of what the walk takes: all rooms, things, beings; one of them.
-/
namespace Go.Proofs.YtaifjndkgfffpaaDoor
open Go.RowKit
set_option linter.unusedVariables false

/-- Numbers as a machine has them (where they are reckoned with). -/
structure Wf (L : Ld) : Prop where
  exit : ∀ r d, r < 6 → d < 6 → -9223372036854775808 ≤ L.exit r d ∧ L.exit r d ≤ 9223372036854775807
  foe : ∀ b, b < 6 → -9223372036854775808 ≤ L.foe b ∧ L.foe b ≤ 9223372036854775807

theorem all_bad {n k : Nat} {f : Nat → Bool} (hk : k < n) (h : f k = false) : (List.range n).all f = false := by
  rw [Bool.eq_false_iff]
  intro hall
  have := List.all_eq_true.1 hall k (by simp [hk])
  rw [h] at this; simp at this
theorem all_ok {n : Nat} {f : Nat → Bool} (h : ∀ k, k < n → f k = true) : (List.range n).all f = true :=
  List.all_eq_true.2 fun k hk => h k (by simpa using hk)

section
variable {P : Program} {ops : Array Oper} {rest : List Oper} {op : Oper} {a : Act} {w : World} {Q : Exit → Act → World → Prop}
theorem wl_rooms (x : Operand) (ho : op.op = .load 26 x) (hw : Region.wanted op (yielded ops a.tmps) = true) (b : Nat) (L : Ld) (hx : a.eval x = .pointer (some ⟨b, 0, none⟩)) (hc : Cod w b L)
    (h : wpList Tryd.prog ops Q rest (a.put op.dst (.agg L.roomsA)) w) : wpList Tryd.prog ops Q (op :: rest) a w :=
  wl_mid 26 x ho hw b 0 L.roomsA.toList _ hx hc.roomsR Tryd.underlying26 rfl (by rw [Array.length_toList]; unfold Ld.roomsA; rw [Array.size_extract, L.size]; exact Tryd.sizeRooms) (by rw [Array.toArray_toList]; exact h)
theorem wl_beings (x : Operand) (ho : op.op = .load 32 x) (hw : Region.wanted op (yielded ops a.tmps) = true) (b : Nat) (L : Ld) (hx : a.eval x = .pointer (some ⟨b, 129, none⟩)) (hc : Cod w b L)
    (h : wpList Tryd.prog ops Q rest (a.put op.dst (.agg L.beingsA)) w) : wpList Tryd.prog ops Q (op :: rest) a w :=
  wl_mid 32 x ho hw b 129 L.beingsA.toList _ hx hc.beingsR Tryd.underlying32 rfl (by rw [Array.length_toList]; unfold Ld.beingsA; rw [Array.size_extract, L.size]; exact Tryd.sizeBeings) (by rw [Array.toArray_toList]; exact h)
theorem wl_things (x : Operand) (ho : op.op = .load 29 x) (hw : Region.wanted op (yielded ops a.tmps) = true) (b : Nat) (L : Ld) (hx : a.eval x = .pointer (some ⟨b, 84, none⟩)) (hc : Cod w b L)
    (h : wpList Tryd.prog ops Q rest (a.put op.dst (.agg L.thingsA)) w) : wpList Tryd.prog ops Q (op :: rest) a w :=
  wl_mid 29 x ho hw b 84 L.thingsA.toList _ hx hc.thingsR Tryd.underlying29 rfl (by rw [Array.length_toList]; unfold Ld.thingsA; rw [Array.size_extract, L.size]; exact Tryd.sizeThings) (by rw [Array.toArray_toList]; exact h)

theorem wl_iroom (x y : Operand) (ho : op.op = .index 26 x y) (hw : Region.wanted op (yielded ops a.tmps) = true) (k : Nat) (L : Ld) (hx : a.eval x = .agg L.roomsA) (hy : a.eval y = .int .i64 (k : Int)) (hk : k < 6)
    (h : wpList Tryd.prog ops Q rest (a.put op.dst (.agg (L.rcells k))) w) : wpList Tryd.prog ops Q (op :: rest) a w :=
  wl_index 26 25 x y ho hw 6 14 k L.roomsA _ hx hy Tryd.underlying26 Tryd.underlying25 rfl Tryd.sizeRoom hk (by rw [L.rooms_at k hk]; exact h)
theorem wl_ibeing (x y : Operand) (ho : op.op = .index 32 x y) (hw : Region.wanted op (yielded ops a.tmps) = true) (k : Nat) (L : Ld) (hx : a.eval x = .agg L.beingsA) (hy : a.eval y = .int .i64 (k : Int)) (hk : k < 6)
    (h : wpList Tryd.prog ops Q rest (a.put op.dst (.agg (L.bcells k))) w) : wpList Tryd.prog ops Q (op :: rest) a w :=
  wl_index 32 31 x y ho hw 6 6 k L.beingsA _ hx hy Tryd.underlying32 Tryd.underlying31 rfl Tryd.sizeBeing hk (by rw [L.beings_at k hk]; exact h)
theorem wl_ithing (x y : Operand) (ho : op.op = .index 29 x y) (hw : Region.wanted op (yielded ops a.tmps) = true) (k : Nat) (L : Ld) (hx : a.eval x = .agg L.thingsA) (hy : a.eval y = .int .i64 (k : Int)) (hk : k < 9)
    (h : wpList Tryd.prog ops Q rest (a.put op.dst (.agg (L.tcells k))) w) : wpList Tryd.prog ops Q (op :: rest) a w :=
  wl_index 29 28 x y ho hw 9 5 k L.thingsA _ hx hy Tryd.underlying29 Tryd.underlying28 rfl Tryd.sizeThing hk (by rw [L.things_at k hk]; exact h)

/-! A room, a being, a thing: laid in the block that was made last; read out of a block. -/
theorem wl_newR (x y : Operand) (ho : op.op = .store 25 x y) (hw : Region.wanted op (yielded ops a.tmps) = true) {W : World} (c : Array Value) (k : Nat) (L : Ld) (hW : W = w.alloc (.cells c 25))
    (hx : a.eval x = .pointer (some ⟨w.heap.size, 0, none⟩)) (hy : a.eval y = .agg (L.rcells k)) (hs : c.size = 14)
    (h : wpList Tryd.prog ops Q rest (a.put op.dst undef) (w.alloc (.cells (L.rcells k) 25))) : wpList Tryd.prog ops Q (op :: rest) a W :=
  wl_new 25 x y ho hw c (L.rcells k) hW hx hy Tryd.sizeRoom hs (by simp [Ld.rcells, Value.oneCell']) h
theorem wl_allR (x : Operand) (ho : op.op = .load 25 x) (hw : Region.wanted op (yielded ops a.tmps) = true) (g k : Nat) (L : Ld) (hx : a.eval x = .pointer (some ⟨g, 0, none⟩))
    (hg : w.heap[g]? = some (.cells (L.rcells k) 25 (0, 0))) (h : wpList Tryd.prog ops Q rest (a.put op.dst (.agg (L.rcells k))) w) : wpList Tryd.prog ops Q (op :: rest) a w :=
  wl_wanted hw (wp_load_row 25 x ho g hx 25 (L.rcells k) (0, 0) _ hg Tryd.underlying25 rfl Tryd.sizeRoom h)
theorem wl_newB (x y : Operand) (ho : op.op = .store 31 x y) (hw : Region.wanted op (yielded ops a.tmps) = true) {W : World} (c : Array Value) (k : Nat) (L : Ld) (hW : W = w.alloc (.cells c 31))
    (hx : a.eval x = .pointer (some ⟨w.heap.size, 0, none⟩)) (hy : a.eval y = .agg (L.bcells k)) (hs : c.size = 6)
    (h : wpList Tryd.prog ops Q rest (a.put op.dst undef) (w.alloc (.cells (L.bcells k) 31))) : wpList Tryd.prog ops Q (op :: rest) a W :=
  wl_new 31 x y ho hw c (L.bcells k) hW hx hy Tryd.sizeBeing hs (by simp [Ld.bcells, Value.oneCell']) h
theorem wl_allB (x : Operand) (ho : op.op = .load 31 x) (hw : Region.wanted op (yielded ops a.tmps) = true) (g k : Nat) (L : Ld) (hx : a.eval x = .pointer (some ⟨g, 0, none⟩))
    (hg : w.heap[g]? = some (.cells (L.bcells k) 31 (0, 0))) (h : wpList Tryd.prog ops Q rest (a.put op.dst (.agg (L.bcells k))) w) : wpList Tryd.prog ops Q (op :: rest) a w :=
  wl_wanted hw (wp_load_row 31 x ho g hx 31 (L.bcells k) (0, 0) _ hg Tryd.underlying31 rfl Tryd.sizeBeing h)
theorem wl_newT (x y : Operand) (ho : op.op = .store 28 x y) (hw : Region.wanted op (yielded ops a.tmps) = true) {W : World} (c : Array Value) (k : Nat) (L : Ld) (hW : W = w.alloc (.cells c 28))
    (hx : a.eval x = .pointer (some ⟨w.heap.size, 0, none⟩)) (hy : a.eval y = .agg (L.tcells k)) (hs : c.size = 5)
    (h : wpList Tryd.prog ops Q rest (a.put op.dst undef) (w.alloc (.cells (L.tcells k) 28))) : wpList Tryd.prog ops Q (op :: rest) a W :=
  wl_new 28 x y ho hw c (L.tcells k) hW hx hy Tryd.sizeThing hs (by simp [Ld.tcells, Value.oneCell']) h
theorem wl_allT (x : Operand) (ho : op.op = .load 28 x) (hw : Region.wanted op (yielded ops a.tmps) = true) (g k : Nat) (L : Ld) (hx : a.eval x = .pointer (some ⟨g, 0, none⟩))
    (hg : w.heap[g]? = some (.cells (L.tcells k) 28 (0, 0))) (h : wpList Tryd.prog ops Q rest (a.put op.dst (.agg (L.tcells k))) w) : wpList Tryd.prog ops Q (op :: rest) a w :=
  wl_wanted hw (wp_load_row 28 x ho g hx 28 (L.tcells k) (0, 0) _ hg Tryd.underlying28 rfl Tryd.sizeThing h)
end

/-- A round's head. -/
structure GdRel (L : Ld) (w wr : World) : Prop where
  cod : Cod wr w.heap.size L
  low : Below w.heap.size w wr

theorem GdRel.box {L : Ld} {w wr : World} (h : GdRel L w wr) (o : Obj) : GdRel L w (wr.alloc o) := ⟨h.cod.alloc o, h.low.alloc h.low.size o⟩
theorem GdRel.call {L : Ld} {w wr w1 : World} (h : GdRel L w wr) (hb : Below wr.heap.size wr w1) : GdRel L w w1 := ⟨h.cod.behind hb (Nat.le_refl _), h.low.trans (hb.mono h.low.size)⟩
theorem gd_start (L : Ld) (w : World) : GdRel L w (w.alloc (.cells L.cells 34)) := ⟨cod_new w L, (Below.refl _ _).alloc (Nat.le_refl _) _⟩

end Go.Proofs.YtaifjndkgfffpaaDoor
