/-
  What Feed of package line needs around its loop.
-/
import Derived.Test.YtpbadpebnhlmlabEnd
namespace Go.Proofs.Ytpbadpebnhlmlab
open Go.RowKit
set_option linter.unusedVariables false

def zl : Lin := { now := ⟨#[]⟩, long := false, ret := false, q := [] }

theorem Try.size24 : (Try.prog.info? 24).map (·.size) = some 4 := by kernel_rfl

theorem load24 (w : World) (b : Nat) (L : Lin) (v : Value) (h : Cod w b L v) : (loadVar 24 ⟨b, 0, none⟩).run Try.prog w = .ok (.agg (L.cells v)) w :=
  run_loadVar_row w b 24 24 (L.cells v) (0, 0) _ h Try.underlying24 rfl Try.size24

theorem res3 {fn : Func} {p a1 a2 : Tmp} (hf : fn.results = #[.cell p 24, .tmp a1, .tmp a2]) {tmps : Array Value} {w : World} {b : Nat} {L : Lin} {v x y : Value}
    (h4 : tmps.getD p undef = .pointer (some ⟨b, 0, none⟩)) (h5 : tmps.getD a1 undef = x) (h6 : tmps.getD a2 undef = y) (hc : Cod w b L v) :
    (results fn tmps).run Try.prog w = .ok (.tuple #[.agg (L.cells v), x, y]) w := by
  simp only [Array.getD_eq_getD_getElem?] at h4 h5 h6
  simp only [results, hf]
  simp [Result.andThen, h4, h5, h6, asAddr, load24 w b L v hc]

/-- Four stores lay lines over others. -/
theorem cod_four {w : World} {b : Nat} {L M : Lin} {v u : Value} (h : Cod w b M u) :
    Cod ((((w.setCell ⟨b, 0, none⟩ (.string L.now)).setCell ⟨b, 1, none⟩ (.bool L.long)).setCell ⟨b, 2, none⟩ (.bool L.ret)).setCell ⟨b, 3, none⟩ v) b L v :=
  cod_mk (cod_set (cod_set (cod_set (cod_set h _ _) _ _) _ _) _ _) (by simp [Lin.cells])

theorem below_four {a w : World} {b B : Nat} {x0 x1 x2 x3 : Value} (h : Below B a w) (hB : B ≤ b) :
    Below B a ((((w.setCell ⟨b, 0, none⟩ x0).setCell ⟨b, 1, none⟩ x1).setCell ⟨b, 2, none⟩ x2).setCell ⟨b, 3, none⟩ x3) :=
  (((h.setCell hB _).setCell hB _).setCell hB _).setCell hB _

theorem grown_trans {a b c : World} {r : Option Nat} (h : a.grownBy b r) (k : b.grownBy c r) : a.grownBy c r :=
  ⟨k.os.trans h.os, k.tape.trans h.tape, k.output.trans h.output, Nat.le_trans h.size k.size, fun i hi hn => (k.block i (Nat.lt_of_lt_of_le hi h.size) hn).trans (h.block i hi hn)⟩

theorem grown_four {w : World} {b : Nat} {x0 x1 x2 x3 : Value} :
    w.grownBy ((((w.setCell ⟨b, 0, none⟩ x0).setCell ⟨b, 1, none⟩ x1).setCell ⟨b, 2, none⟩ x2).setCell ⟨b, 3, none⟩ x3) (some b) :=
  grown_trans (grown_trans (grown_trans (grown_set _ _ _ _) (grown_set _ _ _ _)) (grown_set _ _ _ _)) (grown_set _ _ _ _)

theorem take_snoc (s : ByteArray) (k : Nat) (h : k < s.size) : s.data.toList.take (k + 1) = s.data.toList.take k ++ [s[k]] := by
  rw [List.take_succ_eq_append_getElem (by simpa using h)]; rfl

/-- The relation at a round's head: k bytes are through. -/
structure Rel (w0 : World) (b : Nat) (o : Obj) (L0 : Lin) (s : ByteArray) (k : Nat) (L : Lin) (n : Nat) (v : Value) (wr : World) : Prop where
  le : k ≤ s.size
  eq : feedL L0 (s.data.toList.take k) = (L, n)
  fine : Fine L
  inv : FInv w0 b o L v wr

variable {w0 wr w' : World} {b : Nat} {o o' : Obj} {L0 L L' : Lin} {s : ByteArray} {k n m : Nat} {v v' : Value}

theorem Rel.count (h : Rel w0 b o L0 s k L n v wr) : n ≤ k := by
  have h1 := feed_le L0 (s.data.toList.take k)
  rw [h.eq] at h1
  have h2 : (s.data.toList.take k).length ≤ k := by simp; omega
  simp only at h1
  omega

theorem Rel.next (h : Rel w0 b o L0 s k L n v wr) (hk : k < s.size) (hs : step L s[k] = (L', m)) (hi : FInv w0 b o' L' v' w') :
    Rel w0 b o' L0 s (k + 1) L' (n + m) v' w' := by
  refine ⟨hk, ?_, ?_, hi⟩
  · rw [take_snoc s k hk, feedL_append, h.eq]
    simp only [feedL, hs, Nat.add_zero]
  · have := fine_step h.fine s[k]; rw [hs] at this; exact this

theorem own_base {w : World} {B B' : Nat} {v : Value} {n : Nat} {xs : List Value} (h : w.ownsRow B 9 1 v n xs) (hB : B' ≤ B) : w.ownsRow B' 9 1 v n xs := by
  refine ⟨h.1, ?_⟩
  rcases h.2 with h | ⟨g, cap, cur, h1, h2, h3⟩
  · exact .inl h
  · exact .inr ⟨g, cap, cur, h1, by omega, h3⟩

/-- Behind Good and Clone: as the loop begins. -/
theorem finv_start {w w1 w2 : World} {L : Lin} {v v2 : Value} {o : Obj} (hb1 : Below (((w.alloc (.cells (L.cells v) 24)).alloc o)).heap.size ((w.alloc (.cells (L.cells v) 24)).alloc o) w1)
    (hb2 : Below w1.heap.size w1 w2) (ho : w2.ownsRow w1.heap.size 9 1 v2 L.q.length (scells L.q)) :
    Below w.heap.size w w2 ∧ Cod w2 w.heap.size L v ∧ w2.heap[w.heap.size + 1]? = some o ∧ FInv w w.heap.size o L v2 (w2.setCell ⟨w.heap.size, 3, none⟩ v2) := by
  have hz1 := hb1.size
  simp only [World.size_alloc] at hz1
  have hb : Below w.heap.size w w2 := ((((Below.refl _ _).alloc (Nat.le_refl _) _).alloc (by simp) _).trans (hb1.mono (by simp; omega))).trans (hb2.mono (by omega))
  have hc : Cod w2 w.heap.size L v := by
    show w2.heap[w.heap.size]? = _
    rw [hb2.block _ (by omega), hb1.block _ (by simp; omega), Below.heap_alloc _ _ _ (by simp)]
    exact heap_alloc_new w _
  have ho1 : w2.heap[w.heap.size + 1]? = some o := by
    rw [hb2.block _ (by omega), hb1.block _ (by simp)]
    have := heap_alloc_new (w.alloc (.cells (L.cells v) 24)) o
    rw [World.size_alloc] at this
    exact this
  refine ⟨hb, hc, ho1, Nat.le_refl _, hb.setCell (Nat.le_refl _) _, cod_mk (cod_set hc 3 v2) (by simp [Lin.cells]), cod_ne ho1 (by omega) _ _, ?_⟩
  refine (own_base ho (by omega)).kept (grown_set w2 w.heap.size 3 v2) ?_
  right; intro e; have := (own_base ho (by omega : w.heap.size + 2 ≤ w1.heap.size)).lt _ e; omega

/-- The end of Feed: the lines are laid into the result's block. -/
theorem FInv.done {w0 wr : World} {b : Nat} {L : Lin} {v : Value} (h : FInv w0 b (.cells (zl.cells (.slice none 0 0)) 24) L v wr) :
    Cod ((((wr.setCell ⟨b + 1, 0, none⟩ (.string L.now)).setCell ⟨b + 1, 1, none⟩ (.bool L.long)).setCell ⟨b + 1, 2, none⟩ (.bool L.ret)).setCell ⟨b + 1, 3, none⟩ v) (b + 1) L v ∧
    Reads ((((wr.setCell ⟨b + 1, 0, none⟩ (.string L.now)).setCell ⟨b + 1, 1, none⟩ (.bool L.long)).setCell ⟨b + 1, 2, none⟩ (.bool L.ret)).setCell ⟨b + 1, 3, none⟩ v) v L.q ∧
    Below w0.heap.size w0 ((((wr.setCell ⟨b + 1, 0, none⟩ (.string L.now)).setCell ⟨b + 1, 1, none⟩ (.bool L.long)).setCell ⟨b + 1, 2, none⟩ (.bool L.ret)).setCell ⟨b + 1, 3, none⟩ v) := by
  have hlo := h.lo
  refine ⟨cod_four (M := zl) (u := .slice none 0 0) h.other, reads_own (base := b + 2) (h.own.kept grown_four ?_), below_four h.below (by omega)⟩
  right; intro e; have := h.own.lt _ e; omega

end Go.Proofs.Ytpbadpebnhlmlab
