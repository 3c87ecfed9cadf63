/-
  What holds at each round of the loop of Feed: the codec in its block, the two rows of bytes that the call owns, each apart from the other.
-/
import Derived.Test.YtbjcmnemcgadjaaPure
namespace Go.Proofs.Ytbjcmnemcgadjaa
open Go.RowKit
set_option linter.unusedVariables false

def zt : Tel := { pos := 0, verb := 0, sub := ⟨#[]⟩, u0 := 0, u1 := 0, u2 := 0, t0 := 0, t1 := 0, t2 := 0, height := 0 }

structure FInv (w0 : World) (t : Tel) (vt va : Value) (x y : List UInt8) (wr : World) : Prop where
  below : Below w0.heap.size w0 wr
  cod : Cod wr w0.heap.size t
  res : Cod wr (w0.heap.size + 1) zt
  own1 : wr.ownsRow (w0.heap.size + 2) 5 1 vt x.length (bcells x)
  own2 : wr.ownsRow (w0.heap.size + 2) 5 1 va y.length (bcells y)
  sep : ∀ k, vt.ownBlock = some k → va.ownBlock ≠ some k

variable {w0 wr w' : World} {t t' : Tel} {vt va v' : Value} {x y z : List UInt8}

theorem FInv.room (h : FInv w0 t vt va x y wr) : w0.heap.size + 2 ≤ wr.heap.size := h.res.lt

theorem FInv.turn (h : FInv w0 t vt va x y wr) (hc : Cod w' w0.heap.size t') (hg : wr.grownBy w' (some w0.heap.size)) : FInv w0 t' vt va x y w' := by
  have hr := h.room
  refine ⟨h.below.grown hg (by omega) (fun k e => by simp at e; omega), hc, ?_, h.own1.kept hg ?_, h.own2.kept hg ?_, h.sep⟩
  · unfold Cod; rw [hg.block _ (by omega) (by simp)]; exact h.res
  · right; intro e; have := h.own1.lt _ e; omega
  · right; intro e; have := h.own2.lt _ e; omega

theorem FInv.alloc (h : FInv w0 t vt va x y wr) (o : Obj) : FInv w0 t vt va x y (wr.alloc o) :=
  ⟨h.below.alloc (by have := h.room; omega) o, cod_alloc h.cod o, cod_alloc h.res o, h.own1.alloc o, h.own2.alloc o, h.sep⟩

theorem FInv.drewN (h : FInv w0 t vt va x y wr) (n : Nat) : FInv w0 t vt va x y (wr.drewN n) :=
  ⟨below_drewN h.below n, h.cod, h.res, h.own1, h.own2, h.sep⟩

theorem FInv.app1 (h : FInv w0 t vt va x y wr) (ho : w'.ownsRow (w0.heap.size + 2) 5 1 v' z.length (bcells z)) (hg : wr.grownBy w' vt.ownBlock)
    (hb : v'.ownBlock = vt.ownBlock ∨ v'.ownBlock = some wr.heap.size) : FInv w0 t v' va z y w' := by
  have hr := h.room
  have hk : ∀ k, vt.ownBlock = some k → w0.heap.size + 2 ≤ k := fun k e => (h.own1.lt k e).1
  refine ⟨h.below.grown hg (by omega) (fun k e => by have := hk k e; omega), ?_, ?_, ho, h.own2.kept hg ?_, ?_⟩
  · unfold Cod; rw [hg.block _ (by omega) (fun e => by have := hk _ e.symm; omega)]; exact h.cod
  · unfold Cod; rw [hg.block _ (by omega) (fun e => by have := hk _ e.symm; omega)]; exact h.res
  · cases e : vt.ownBlock with
    | none => cases e2 : va.ownBlock <;> simp
    | some k => right; exact h.sep k e
  · intro k e
    rcases hb with hb | hb
    · exact h.sep k (hb ▸ e)
    · intro e2
      have := (h.own2.lt k e2).2
      rw [hb] at e; simp at e; omega

theorem FInv.app2 (h : FInv w0 t vt va x y wr) (ho : w'.ownsRow (w0.heap.size + 2) 5 1 v' z.length (bcells z)) (hg : wr.grownBy w' va.ownBlock)
    (hb : v'.ownBlock = va.ownBlock ∨ v'.ownBlock = some wr.heap.size) : FInv w0 t vt v' x z w' := by
  have hr := h.room
  have hk : ∀ k, va.ownBlock = some k → w0.heap.size + 2 ≤ k := fun k e => (h.own2.lt k e).1
  refine ⟨h.below.grown hg (by omega) (fun k e => by have := hk k e; omega), ?_, ?_, h.own1.kept hg ?_, ho, ?_⟩
  · unfold Cod; rw [hg.block _ (by omega) (fun e => by have := hk _ e.symm; omega)]; exact h.cod
  · unfold Cod; rw [hg.block _ (by omega) (fun e => by have := hk _ e.symm; omega)]; exact h.res
  · cases e : vt.ownBlock with
    | none => left; rfl
    | some k => right; exact fun e2 => h.sep k e e2.symm
  · intro k e e2
    rcases hb with hb | hb
    · exact h.sep k e (hb ▸ e2)
    · have := (h.own1.lt k e).2
      rw [hb] at e2; simp at e2; omega

theorem take_snoc (s : ByteArray) (k : Nat) (h : k < s.size) : s.data.toList.take (k + 1) = s.data.toList.take k ++ [s[k]] := by
  rw [List.take_succ_eq_append_getElem (by simpa using h)]; rfl

/-- The relation at a round's head: k bytes are through. -/
structure Rel (w0 : World) (t0 : Tel) (s : ByteArray) (k : Nat) (T : Tel) (vt va : Value) (X Y : List UInt8) (wr : World) : Prop where
  le : k ≤ s.size
  eq : feedL t0 (s.data.toList.take k) = (T, X, Y)
  fine : Fine T
  inv : FInv w0 T vt va X Y wr

theorem Rel.next {k : Nat} {T T' : Tel} {s : ByteArray} {t0 : Tel} {X Y : List UInt8} {vt' va' : Value} (h : Rel w0 t0 s k T vt va X Y wr) (hk : k < s.size) {a b : List UInt8} (hs : step T s[k] = (T', a, b)) (hi : FInv w0 T' vt' va' (X ++ a) (Y ++ b) w') :
    Rel w0 t0 s (k + 1) T' vt' va' (X ++ a) (Y ++ b) w' := by
  have hf := fine_step h.fine s[k]
  rw [hs] at hf
  refine ⟨hk, ?_, hf, hi⟩
  rw [take_snoc s k hk, feedL_snoc _ _ _ h.eq, hs]

theorem Rel.small {k : Nat} {T : Tel} {s : ByteArray} {t0 : Tel} {X Y : List UInt8} (h : Rel w0 t0 s k T vt va X Y wr) : X.length ≤ k ∧ Y.length ≤ 3 * k := by
  have := feed_len t0 (s.data.toList.take k)
  rw [h.eq] at this
  have hl : (s.data.toList.take k).length ≤ k := List.length_take_le _ _
  simp only at this
  omega
theorem Try.size25 : (Try.prog.info? 25).map (·.size) = some 10 := by kernel_rfl

theorem load25 (w : World) (b : Nat) (t : Tel) (h : Cod w b t) : (loadVar 25 ⟨b, 0, none⟩).run Try.prog w = .ok t.val w :=
  run_loadVar_row w b 25 25 t.cells (0, 0) _ h Try.underlying25 rfl Try.size25

theorem res4 {fn : Func} {p a1 a2 a3 : Tmp} (hf : fn.results = #[.cell p 25, .tmp a1, .tmp a2, .tmp a3]) {tmps : Array Value} {w : World} {b : Nat} {t : Tel} {x y e : Value}
    (h4 : tmps.getD p undef = .pointer (some ⟨b, 0, none⟩)) (h5 : tmps.getD a1 undef = x) (h6 : tmps.getD a2 undef = y) (h7 : tmps.getD a3 undef = e) (hc : Cod w b t) :
    (results fn tmps).run Try.prog w = .ok (.tuple #[t.val, x, y, e]) w := by
  simp only [Array.getD_eq_getD_getElem?] at h4 h5 h6 h7
  simp only [results, hf]
  simp [Result.andThen, h4, h5, h6, h7, asAddr, load25 w b t hc]

theorem res3 {fn : Func} {p a1 a2 : Tmp} (hf : fn.results = #[.cell p 25, .tmp a1, .tmp a2]) {tmps : Array Value} {w : World} {b : Nat} {t : Tel} {x y : Value}
    (h4 : tmps.getD p undef = .pointer (some ⟨b, 0, none⟩)) (h5 : tmps.getD a1 undef = x) (h6 : tmps.getD a2 undef = y) (hc : Cod w b t) :
    (results fn tmps).run Try.prog w = .ok (.tuple #[t.val, x, y]) w := by
  simp only [Array.getD_eq_getD_getElem?] at h4 h5 h6
  simp only [results, hf]
  simp [Result.andThen, h4, h5, h6, asAddr, load25 w b t hc]

/-- Ten stores lay a codec over another one. -/
theorem cod_ten {w : World} {b : Nat} {t u : Tel} (h : Cod w b u) :
    Cod ((((((((((w.setCell ⟨b, 0, none⟩ (.int .i64 t.pos)).setCell ⟨b, 1, none⟩ (.int .i64 t.verb)).setCell ⟨b, 2, none⟩ (.string t.sub)).setCell ⟨b, 3, none⟩ (.int .i64 t.u0)).setCell ⟨b, 4, none⟩ (.int .i64 t.u1)).setCell ⟨b, 5, none⟩ (.int .i64 t.u2)).setCell ⟨b, 6, none⟩ (.int .i64 t.t0)).setCell ⟨b, 7, none⟩ (.int .i64 t.t1)).setCell ⟨b, 8, none⟩ (.int .i64 t.t2)).setCell ⟨b, 9, none⟩ (.int .i64 t.height)) b t :=
  cod_mk (cod_set (cod_set (cod_set (cod_set (cod_set (cod_set (cod_set (cod_set (cod_set (cod_set h _ _) _ _) _ _) _ _) _ _) _ _) _ _) _ _) _ _) _ _) (by simp [Tel.cells])

theorem below_ten {a w : World} {b B : Nat} {t : Tel} (h : Below B a w) (hB : B ≤ b) :
    Below B a ((((((((((w.setCell ⟨b, 0, none⟩ (.int .i64 t.pos)).setCell ⟨b, 1, none⟩ (.int .i64 t.verb)).setCell ⟨b, 2, none⟩ (.string t.sub)).setCell ⟨b, 3, none⟩ (.int .i64 t.u0)).setCell ⟨b, 4, none⟩ (.int .i64 t.u1)).setCell ⟨b, 5, none⟩ (.int .i64 t.u2)).setCell ⟨b, 6, none⟩ (.int .i64 t.t0)).setCell ⟨b, 7, none⟩ (.int .i64 t.t1)).setCell ⟨b, 8, none⟩ (.int .i64 t.t2)).setCell ⟨b, 9, none⟩ (.int .i64 t.height)) :=
  (((((((((h.setCell hB _).setCell hB _).setCell hB _).setCell hB _).setCell hB _).setCell hB _).setCell hB _).setCell hB _).setCell hB _).setCell hB _

theorem grown_ten {a w : World} {b : Nat} {t : Tel} (h : a.grownBy w (some b)) :
    a.grownBy ((((((((((w.setCell ⟨b, 0, none⟩ (.int .i64 t.pos)).setCell ⟨b, 1, none⟩ (.int .i64 t.verb)).setCell ⟨b, 2, none⟩ (.string t.sub)).setCell ⟨b, 3, none⟩ (.int .i64 t.u0)).setCell ⟨b, 4, none⟩ (.int .i64 t.u1)).setCell ⟨b, 5, none⟩ (.int .i64 t.u2)).setCell ⟨b, 6, none⟩ (.int .i64 t.t0)).setCell ⟨b, 7, none⟩ (.int .i64 t.t1)).setCell ⟨b, 8, none⟩ (.int .i64 t.t2)).setCell ⟨b, 9, none⟩ (.int .i64 t.height)) (some b) :=
  grown_set (grown_set (grown_set (grown_set (grown_set (grown_set (grown_set (grown_set (grown_set (grown_set h _ _) _ _) _ _) _ _) _ _) _ _) _ _) _ _) _ _) _ _

theorem FInv.convs (h : FInv w0 t vt va x y wr) (hg : wr.grownBy w' (some (w0.heap.size + 1))) :
    (convert 36 9 vt).run Try.prog w'.drew = .ok (.string ⟨x.toArray⟩) w'.drew ∧ (convert 36 9 va).run Try.prog w'.drew = .ok (.string ⟨y.toArray⟩) w'.drew := by
  refine ⟨conv_own w' _ _ x (h.own1.kept hg ?_) _ rfl, conv_own w' _ _ y (h.own2.kept hg ?_) _ rfl⟩
  · right; intro e; have := h.own1.lt _ e; omega
  · right; intro e; have := h.own2.lt _ e; omega

end Go.Proofs.Ytbjcmnemcgadjaa
