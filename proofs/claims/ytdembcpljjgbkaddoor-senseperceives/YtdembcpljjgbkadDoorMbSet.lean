/-
  A map[int]bool that the call made, as a set of numbers: made, asked, marked; of no program.
-/
import Derived.Maps.Own
import Derived.Maps.Views
import Derived.Maps.Keyed
namespace Go.Proofs.YtdembcpljjgbkadDoor
set_option linter.unusedVariables false

/-- Block b is a map of numbers to bools, of at most n entries; S says of each number what it answers. -/
def Seen (P : Program) (k e : TypeId) (w : World) (b n : Nat) (S : Int → Bool) : Prop :=
  ∃ D : DataW Unit, w.ownsMap P k (plainElem P e) b n D ∧ Maps.IsMap D ∧ ∀ i, (Lit.int .i64 i).wf = true → D.atKey (.int .i64 i) (.lit (.bool false)) = .lit (.bool (S i))

section
variable {P : Program} {k e : TypeId} {w : World} {b n : Nat} {S : Int → Bool}

theorem seen_made (w : World) : Seen P k e (w.alloc (.map #[] 0)) w.heap.size 0 (fun _ => false) :=
  ⟨.map [], World.ownsMap_made w P k _, ⟨_, rfl⟩, fun i _ => rfl⟩

theorem Seen.lt (h : Seen P k e w b n S) : b < w.heap.size := by
  obtain ⟨D, h, _⟩ := h; exact h.lt
theorem Seen.grown {w' : World} {row : Option Nat} (h : Seen P k e w b n S) (hg : w.grownBy w' row) (hne : some b ≠ row) : Seen P k e w' b n S := by
  obtain ⟨D, h, hm, hs⟩ := h; exact ⟨D, h.kept hg hne, hm, hs⟩
theorem Seen.mono (h : Seen P k e w b n S) {n' : Nat} (hn : n ≤ n') : Seen P k e w b n' S := by
  obtain ⟨D, h, hm, hs⟩ := h; exact ⟨D, h.mono hn, hm, hs⟩

theorem plainElem_bool_inv (he : P.underlying e = some .bool) {v : Value} {z : DataW Unit × List MemPlace} (h : plainElem P e v = some z) : ∃ x, v = .bool x ∧ z = (.lit (.bool x), []) := by
  unfold plainElem at h
  rw [he] at h
  cases v <;> simp at h
  exact ⟨_, rfl, h.symm⟩

theorem Seen.ask {t : TypeId} (h : Seen P k e w b n S) (hk : P.underlying k = some (.int .i64)) (ht : P.underlying t = some (.map k e)) (he : P.underlying e = some .bool) (hz : (zeroValue e).run P w = .ok (.bool false) w) {i : Int} (hi : (Lit.int .i64 i).wf = true) :
    (Instr.lookup t (.map (some b)) (.int .i64 i) false).run P w = .ok (.bool (S i)) w := by
  obtain ⟨D, h, hm, hs⟩ := h
  obtain ⟨v, ps, hrun, hv⟩ := h.lookup (Maps.int_keyed hk) ht hz (plainElem_bool he false) (Maps.keyOf_int_mk hk hi)
  obtain ⟨x, rfl, hx⟩ := plainElem_bool_inv he hv
  rw [hs i hi] at hx
  simp only [Prod.mk.injEq, DataW.lit.injEq, Lit.bool.injEq] at hx
  rw [hx.1]; exact hrun

theorem Seen.mark {t : TypeId} (h : Seen P k e w b n S) (hk : P.underlying k = some (.int .i64)) (ht : P.underlying t = some (.map k e)) (he : P.underlying e = some .bool) (hn : n < maxLen) {i : Int} (hi : (Lit.int .i64 i).wf = true) :
    ∃ w', (Instr.mapUpdate t (.map (some b)) (.int .i64 i) (.bool true)).run P w = .ok () w' ∧ Seen P k e w' b (n + 1) (fun j => decide (j = i) || S j) ∧ w.grownBy w' (some b) := by
  obtain ⟨D, h, hm, hs⟩ := h
  obtain ⟨w', hrun, h1, h2⟩ := h.update (Maps.int_keyed hk) ht hn (Maps.keyOf_int_mk hk hi) (plainElem_bool he true)
  refine ⟨w', hrun, ⟨_, h1, ?_, fun j hj => ?_⟩, h2⟩
  · obtain ⟨es, rfl⟩ := hm
    exact ⟨_, rfl⟩
  · by_cases e0 : j = i
    · subst e0
      rw [Maps.atKey_put_same hm (by trivial)]; simp
    · rw [Maps.atKey_put_other (by intro e2; cases e2; exact e0 rfl), hs j hj]
      simp [e0]
end

section
variable {P : Program} {ops : Array Oper} {rest : List Oper} {op : Oper} {a : Act} {w : World} {Q : Exit → Act → World → Prop} {k e : TypeId} {b n : Nat} {S : Int → Bool}

/-- The set is asked, at an operation that may be guarded. -/
theorem wl_ask (t : TypeId) (m x : Operand) (ho : op.op = .lookup t m x false) (hw : Region.wanted op (yielded ops a.tmps) = true) (hk : P.underlying k = some (.int .i64)) (ht : P.underlying t = some (.map k e)) (he : P.underlying e = some .bool)
    (hz : (zeroValue e).run P w = .ok (.bool false) w) (hm : a.eval m = .map (some b)) (hS : Seen P k e w b n S) (i : Int) (hx : a.eval x = .int .i64 i) (hi : (Lit.int .i64 i).wf = true)
    (h : wpList P ops Q rest (a.put op.dst (.bool (S i))) w) : wpList P ops Q (op :: rest) a w := by
  simp only [wpList]
  rw [if_pos hw]
  refine .inl ?_
  unfold Oper.wp execOp
  simp only [ho, hm, hx, Sem.run_bind, hS.ask hk ht he hz hi, Result.andThen_ok]
  exact h

/-- A number is marked. -/
theorem wl_mark (t : TypeId) (m x v : Operand) (ho : op.op = .mapUpdate t m x v) (hw : Region.wanted op (yielded ops a.tmps) = true) (hk : P.underlying k = some (.int .i64)) (ht : P.underlying t = some (.map k e)) (he : P.underlying e = some .bool)
    (hn : n < maxLen) (hm : a.eval m = .map (some b)) (hS : Seen P k e w b n S) (i : Int) (hx : a.eval x = .int .i64 i) (hi : (Lit.int .i64 i).wf = true) (hv : a.eval v = .bool true)
    (h : ∀ w', Seen P k e w' b (n + 1) (fun j => decide (j = i) || S j) → w.grownBy w' (some b) → wpList P ops Q rest (a.put op.dst undef) w') : wpList P ops Q (op :: rest) a w := by
  simp only [wpList]
  rw [if_pos hw]
  refine .inl ?_
  obtain ⟨w', hrun, h1, h2⟩ := hS.mark hk ht he hn hi
  unfold Oper.wp execOp
  simp only [ho, hm, hx, hv, Sem.run_bind, hrun, Result.andThen_ok]
  exact h w' h1 h2
end
end Go.Proofs.YtdembcpljjgbkadDoor
