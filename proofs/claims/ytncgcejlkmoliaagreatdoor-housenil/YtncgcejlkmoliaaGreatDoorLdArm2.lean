/-
  More of what the walk takes: all rooms, things, beings; one of them.
-/
import Derived.Test.YtncgcejlkmoliaaGreatDoorLdArm
namespace Go.Proofs.YtncgcejlkmoliaaGreatDoor
open Go.RowKit
set_option linter.unusedVariables false

/-- Numbers as a machine has them (where they are reckoned with). -/
structure Wf (L : Ld) : Prop where
  exit : ∀ r d, r < 6 → d < 6 → -9223372036854775808 ≤ L.exit r d ∧ L.exit r d ≤ 9223372036854775807
  foe : ∀ b, b < 6 → -9223372036854775808 ≤ L.foe b ∧ L.foe b ≤ 9223372036854775807

theorem all_bad {n k : Nat} {f : Nat → Bool} (hk : k < n) (h : f k = false) : (List.range n).all f = false := by
  rw [Bool.eq_false_iff]
  intro hall
  have := List.all_eq_true.1 hall k (by simp [hk])
  rw [h] at this; simp at this
theorem all_ok {n : Nat} {f : Nat → Bool} (h : ∀ k, k < n → f k = true) : (List.range n).all f = true :=
  List.all_eq_true.2 fun k hk => h k (by simpa using hk)

section
variable {P : Program} {ops : Array Oper} {rest : List Oper} {op : Oper} {a : Act} {w : World} {Q : Exit → Act → World → Prop}
theorem wl_rooms (x : Operand) (ho : op.op = .load 35 x) (hw : Region.wanted op (yielded ops a.tmps) = true) (b : Nat) (L : Ld) (hx : a.eval x = .pointer (some ⟨b, 0, none⟩)) (hc : Cod w b L)
    (h : wpList Tryz.prog ops Q rest (a.put op.dst (.agg L.roomsA)) w) : wpList Tryz.prog ops Q (op :: rest) a w :=
  wl_mid 35 x ho hw b 0 L.roomsA.toList _ hx hc.roomsR Tryz.underlying35 rfl (by rw [Array.length_toList]; unfold Ld.roomsA; rw [Array.size_extract, L.size]; exact Tryz.sizeRooms) (by rw [Array.toArray_toList]; exact h)
theorem wl_beings (x : Operand) (ho : op.op = .load 41 x) (hw : Region.wanted op (yielded ops a.tmps) = true) (b : Nat) (L : Ld) (hx : a.eval x = .pointer (some ⟨b, 129, none⟩)) (hc : Cod w b L)
    (h : wpList Tryz.prog ops Q rest (a.put op.dst (.agg L.beingsA)) w) : wpList Tryz.prog ops Q (op :: rest) a w :=
  wl_mid 41 x ho hw b 129 L.beingsA.toList _ hx hc.beingsR Tryz.underlying41 rfl (by rw [Array.length_toList]; unfold Ld.beingsA; rw [Array.size_extract, L.size]; exact Tryz.sizeBeings) (by rw [Array.toArray_toList]; exact h)
theorem wl_things (x : Operand) (ho : op.op = .load 38 x) (hw : Region.wanted op (yielded ops a.tmps) = true) (b : Nat) (L : Ld) (hx : a.eval x = .pointer (some ⟨b, 84, none⟩)) (hc : Cod w b L)
    (h : wpList Tryz.prog ops Q rest (a.put op.dst (.agg L.thingsA)) w) : wpList Tryz.prog ops Q (op :: rest) a w :=
  wl_mid 38 x ho hw b 84 L.thingsA.toList _ hx hc.thingsR Tryz.underlying38 rfl (by rw [Array.length_toList]; unfold Ld.thingsA; rw [Array.size_extract, L.size]; exact Tryz.sizeThings) (by rw [Array.toArray_toList]; exact h)

theorem wl_iroom (x y : Operand) (ho : op.op = .index 35 x y) (hw : Region.wanted op (yielded ops a.tmps) = true) (k : Nat) (L : Ld) (hx : a.eval x = .agg L.roomsA) (hy : a.eval y = .int .i64 (k : Int)) (hk : k < 6)
    (h : wpList Tryz.prog ops Q rest (a.put op.dst (.agg (L.rcells k))) w) : wpList Tryz.prog ops Q (op :: rest) a w :=
  wl_index 35 34 x y ho hw 6 14 k L.roomsA _ hx hy Tryz.underlying35 Tryz.underlying34 rfl Tryz.sizeRoom hk (by rw [L.rooms_at k hk]; exact h)
theorem wl_ibeing (x y : Operand) (ho : op.op = .index 41 x y) (hw : Region.wanted op (yielded ops a.tmps) = true) (k : Nat) (L : Ld) (hx : a.eval x = .agg L.beingsA) (hy : a.eval y = .int .i64 (k : Int)) (hk : k < 6)
    (h : wpList Tryz.prog ops Q rest (a.put op.dst (.agg (L.bcells k))) w) : wpList Tryz.prog ops Q (op :: rest) a w :=
  wl_index 41 40 x y ho hw 6 6 k L.beingsA _ hx hy Tryz.underlying41 Tryz.underlying40 rfl Tryz.sizeBeing hk (by rw [L.beings_at k hk]; exact h)
theorem wl_ithing (x y : Operand) (ho : op.op = .index 38 x y) (hw : Region.wanted op (yielded ops a.tmps) = true) (k : Nat) (L : Ld) (hx : a.eval x = .agg L.thingsA) (hy : a.eval y = .int .i64 (k : Int)) (hk : k < 9)
    (h : wpList Tryz.prog ops Q rest (a.put op.dst (.agg (L.tcells k))) w) : wpList Tryz.prog ops Q (op :: rest) a w :=
  wl_index 38 37 x y ho hw 9 5 k L.thingsA _ hx hy Tryz.underlying38 Tryz.underlying37 rfl Tryz.sizeThing hk (by rw [L.things_at k hk]; exact h)

/-! A room, a being, a thing: laid in the block that was made last; read out of a block. -/
theorem wl_newR (x y : Operand) (ho : op.op = .store 34 x y) (hw : Region.wanted op (yielded ops a.tmps) = true) {W : World} (c : Array Value) (k : Nat) (L : Ld) (hW : W = w.alloc (.cells c 34))
    (hx : a.eval x = .pointer (some ⟨w.heap.size, 0, none⟩)) (hy : a.eval y = .agg (L.rcells k)) (hs : c.size = 14)
    (h : wpList Tryz.prog ops Q rest (a.put op.dst undef) (w.alloc (.cells (L.rcells k) 34))) : wpList Tryz.prog ops Q (op :: rest) a W :=
  wl_new 34 x y ho hw c (L.rcells k) hW hx hy Tryz.sizeRoom hs (by simp [Ld.rcells, Value.oneCell']) h
theorem wl_allR (x : Operand) (ho : op.op = .load 34 x) (hw : Region.wanted op (yielded ops a.tmps) = true) (g k : Nat) (L : Ld) (hx : a.eval x = .pointer (some ⟨g, 0, none⟩))
    (hg : w.heap[g]? = some (.cells (L.rcells k) 34 (0, 0))) (h : wpList Tryz.prog ops Q rest (a.put op.dst (.agg (L.rcells k))) w) : wpList Tryz.prog ops Q (op :: rest) a w :=
  wl_wanted hw (wp_load_row 34 x ho g hx 34 (L.rcells k) (0, 0) _ hg Tryz.underlying34 rfl Tryz.sizeRoom h)
theorem wl_newB (x y : Operand) (ho : op.op = .store 40 x y) (hw : Region.wanted op (yielded ops a.tmps) = true) {W : World} (c : Array Value) (k : Nat) (L : Ld) (hW : W = w.alloc (.cells c 40))
    (hx : a.eval x = .pointer (some ⟨w.heap.size, 0, none⟩)) (hy : a.eval y = .agg (L.bcells k)) (hs : c.size = 6)
    (h : wpList Tryz.prog ops Q rest (a.put op.dst undef) (w.alloc (.cells (L.bcells k) 40))) : wpList Tryz.prog ops Q (op :: rest) a W :=
  wl_new 40 x y ho hw c (L.bcells k) hW hx hy Tryz.sizeBeing hs (by simp [Ld.bcells, Value.oneCell']) h
theorem wl_allB (x : Operand) (ho : op.op = .load 40 x) (hw : Region.wanted op (yielded ops a.tmps) = true) (g k : Nat) (L : Ld) (hx : a.eval x = .pointer (some ⟨g, 0, none⟩))
    (hg : w.heap[g]? = some (.cells (L.bcells k) 40 (0, 0))) (h : wpList Tryz.prog ops Q rest (a.put op.dst (.agg (L.bcells k))) w) : wpList Tryz.prog ops Q (op :: rest) a w :=
  wl_wanted hw (wp_load_row 40 x ho g hx 40 (L.bcells k) (0, 0) _ hg Tryz.underlying40 rfl Tryz.sizeBeing h)
theorem wl_newT (x y : Operand) (ho : op.op = .store 37 x y) (hw : Region.wanted op (yielded ops a.tmps) = true) {W : World} (c : Array Value) (k : Nat) (L : Ld) (hW : W = w.alloc (.cells c 37))
    (hx : a.eval x = .pointer (some ⟨w.heap.size, 0, none⟩)) (hy : a.eval y = .agg (L.tcells k)) (hs : c.size = 5)
    (h : wpList Tryz.prog ops Q rest (a.put op.dst undef) (w.alloc (.cells (L.tcells k) 37))) : wpList Tryz.prog ops Q (op :: rest) a W :=
  wl_new 37 x y ho hw c (L.tcells k) hW hx hy Tryz.sizeThing hs (by simp [Ld.tcells, Value.oneCell']) h
theorem wl_allT (x : Operand) (ho : op.op = .load 37 x) (hw : Region.wanted op (yielded ops a.tmps) = true) (g k : Nat) (L : Ld) (hx : a.eval x = .pointer (some ⟨g, 0, none⟩))
    (hg : w.heap[g]? = some (.cells (L.tcells k) 37 (0, 0))) (h : wpList Tryz.prog ops Q rest (a.put op.dst (.agg (L.tcells k))) w) : wpList Tryz.prog ops Q (op :: rest) a w :=
  wl_wanted hw (wp_load_row 37 x ho g hx 37 (L.tcells k) (0, 0) _ hg Tryz.underlying37 rfl Tryz.sizeThing h)
end

/-- A round's head. -/
structure GdRel (L : Ld) (w wr : World) : Prop where
  cod : Cod wr w.heap.size L
  low : Below w.heap.size w wr

theorem GdRel.box {L : Ld} {w wr : World} (h : GdRel L w wr) (o : Obj) : GdRel L w (wr.alloc o) := ⟨h.cod.alloc o, h.low.alloc h.low.size o⟩
theorem GdRel.call {L : Ld} {w wr w1 : World} (h : GdRel L w wr) (hb : Below wr.heap.size wr w1) : GdRel L w w1 := ⟨h.cod.behind hb (Nat.le_refl _), h.low.trans (hb.mono h.low.size)⟩
theorem gd_start (L : Ld) (w : World) : GdRel L w (w.alloc (.cells L.cells 43)) := ⟨cod_new w L, (Below.refl _ _).alloc (Nat.le_refl _) _⟩

end Go.Proofs.YtncgcejlkmoliaaGreatDoor
