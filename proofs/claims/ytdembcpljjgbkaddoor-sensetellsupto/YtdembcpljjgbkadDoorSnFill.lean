/-
  A form filled: its contract. Ai: strconv.AppendInt lays a number's numeral behind a row, in whatever world behind this one.
-/
import Derived.Test.YtdembcpljjgbkadDoorSnForm
import Derived.Lib.AppendStr
import Derived.Lib.UnsafeStr
namespace Go.Proofs.YtdembcpljjgbkadDoor
open Go.RowKit
set_option linter.unusedVariables false

def Ai (w0 : World) : Prop := ∀ (w : World) (B n : Nat) (i : Int) (sv : Value) (xs : List Value), Below w0.heap.size w0 w → w0.heap.size ≤ B → -9223372036854775808 ≤ i → i ≤ 9223372036854775807 → w.ownsRow B 5 1 sv n xs → B ≤ w.heap.size → n + 21 ≤ 140737488355328 →
  Calls Tryd.prog 60 #[sv, .int .i64 i, .int .i64 10] w fun e w' => ∃ v', e = .returned v' ∧ w'.ownsRow B 5 1 v' (n + (Lib.itoa i).length) (xs ++ Lib.byteCells (Lib.itoa i)) ∧ Below B w w'
theorem Ai.below {w0 w1 : World} (h : Ai w0) (hb : Below w0.heap.size w0 w1) : Ai w1 := fun w B n i sv xs hb1 hB h0 h1 ho hBw hl =>
  h w B n i sv xs (hb.trans (hb1.mono hb.size)) (Nat.le_trans hb.size hB) h0 h1 ho hBw hl

theorem Tryd.info5 : (Tryd.prog.info? 5).map (fun i => (i.zero, i.size, i.bytes)) = some (some (.int .u8 0), 1, 1) := by kernel_rfl

theorem own_shapeB {w : World} {base : Nat} {v : Value} {n : Nat} {xs : List Value} (h : w.ownsRow base 5 1 v n xs) : ∃ (av : Option Addr) (cap : Nat), v = .slice av n cap := by
  rcases h.2 with ⟨rfl, rfl⟩ | ⟨g, cap, cur, rfl, _⟩
  · exact ⟨_, _, rfl⟩
  · exact ⟨_, _, rfl⟩

/-- Bytes of one's own, as a text. -/
theorem conv_own {w : World} {base : Nat} {v : Value} {l : List UInt8} (h : w.ownsRow base 5 1 v l.length (Lib.byteCells l)) : (convert 87 9 v).run Tryd.prog w = .ok (.string (bs l)) w := by
  rcases h.2 with ⟨rfl, h0⟩ | ⟨g, cap, cur, rfl, hbg, hgg, hnc, hcm, hcs, htake⟩
  · rw [List.eq_nil_of_length_eq_zero h0]
    rw [run_convert_bytes_string w 87 9 5 none _ _ Tryd.underlying87 Tryd.underlying5 Tryd.underlying9]
    rfl
  · exact run_convert_bytes_back w 87 9 5 ⟨g, 0, none⟩ cap l Tryd.underlying87 Tryd.underlying5 Tryd.underlying9 (fun j hj => h.cells (g := g) rfl j _ (by simp [Lib.byteCells, hj]))

/-- A round's head. -/
structure FRel (E : Ev) (w : World) (v : Value) (l : List UInt8) (wr : World) : Prop where
  own : wr.ownsRow (w.heap.size + 1) 5 1 v l.length (Lib.byteCells l)
  cev : Cev wr w.heap.size E
  low : Below w.heap.size w wr
  size : w.heap.size + 1 ≤ wr.heap.size

section
variable {E : Ev} {w wr wr' : World} {v v' : Value} {l m : List UInt8}
theorem FRel.on (h : FRel E w v l wr) (ho : wr'.ownsRow (w.heap.size + 1) 5 1 v' (l.length + m.length) (Lib.byteCells l ++ Lib.byteCells m)) (hb : Below (w.heap.size + 1) wr wr') : FRel E w v' (l ++ m) wr' := by
  refine ⟨?_, ?_, h.low.trans (hb.mono (by omega)), by have := hb.size; have := h.size; omega⟩
  · have e2 : Lib.byteCells (l ++ m) = Lib.byteCells l ++ Lib.byteCells m := by simp [Lib.byteCells]
    rw [List.length_append, e2]; exact ho
  · have := h.cev
    unfold Cev at this ⊢
    rw [hb.block _ (by omega)]; exact this
theorem FRel.grown (h : FRel E w v l wr) (ho : wr'.ownsRow (w.heap.size + 1) 5 1 v' (l.length + m.length) (Lib.byteCells l ++ Lib.byteCells m)) (hg : wr.grownBy wr' v.ownBlock) : FRel E w v' (l ++ m) wr' :=
  h.on ho ((Below.refl _ _ : Below (w.heap.size + 1) wr wr).grown hg (by have := h.size; omega) (fun k hk => (h.own.lt k (by simpa using hk)).1))
theorem FRel.box (h : FRel E w v l wr) (o : Obj) : FRel E w v l (wr.alloc o) :=
  ⟨h.own.alloc o, h.cev.alloc o, h.low.alloc h.low.size o, by have := h.size; simp; omega⟩
theorem fr_start (E : Ev) (w : World) : FRel E w (.slice none 0 0) [] (w.alloc (.cells E.cells 48)) :=
  ⟨World.ownsRow_nil _ _ _ _, cev_new w E, (Below.refl _ _).alloc (Nat.le_refl _) _, by simp⟩
end

theorem fill_le (E : Ev) (f : List UInt8) (k : Nat) : (fillL E (f.take k)).length ≤ (fillL E f).length := by
  have : fillL E f = fillL E (f.take k) ++ fillL E (f.drop k) := by
    unfold fillL
    rw [← List.flatMap_append, List.take_append_drop]
  rw [this, List.length_append]; omega
theorem u8_beq (c : UInt8) (n : Nat) (hn : n < 256) : (((c.toNat : Nat) : Int) == (n : Int)) = decide (c = UInt8.ofNat n) := byte_beq c n hn
end Go.Proofs.YtdembcpljjgbkadDoor
