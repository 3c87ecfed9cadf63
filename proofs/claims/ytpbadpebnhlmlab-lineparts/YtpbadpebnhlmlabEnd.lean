/-
  What holds while bytes go through: the lines in their block, the list that the call owns; the contract of end of package line.
-/
import Derived.Test.YtpbadpebnhlmlabClone
namespace Go.Proofs.Ytpbadpebnhlmlab
open Go.RowKit
set_option linter.unusedVariables false

/-- Block b holds the lines L, the list being v. -/
def Cod (w : World) (b : Nat) (L : Lin) (v : Value) : Prop := w.heap[b]? = some (.cells (L.cells v) 24 (0, 0))

section
variable {w w' : World} {b : Nat} {L : Lin} {v : Value}

theorem Cod.cell (h : Cod w b L v) (o : Nat) : w.cell? ⟨b, o, none⟩ = (L.cells v)[o]? := by
  unfold Cod at h; simp [World.cell?, h]

theorem Cod.frozen (h : Cod w b L v) (o : Nat) : w.frozen? ⟨b, o, none⟩ = false := by
  unfold Cod at h; simp [World.frozen?, h]

theorem Cod.lt (h : Cod w b L v) : b < w.heap.size := (Array.getElem?_eq_some_iff.1 h).1

theorem Cod.all (h : Cod w b L v) :
    w.cell? ⟨b, 0, none⟩ = some (.string L.now) ∧ w.cell? ⟨b, 1, none⟩ = some (.bool L.long) ∧ w.cell? ⟨b, 2, none⟩ = some (.bool L.ret) ∧ w.cell? ⟨b, 3, none⟩ = some v ∧ ∀ o, w.frozen? ⟨b, o, none⟩ = false :=
  ⟨h.cell 0, h.cell 1, h.cell 2, h.cell 3, h.frozen⟩

theorem cod_mk {cs : Array Value} (h : w.heap[b]? = some (.cells cs 24 (0, 0))) (e : cs = L.cells v) : Cod w b L v := by
  subst e; exact h

theorem cod_set {cs : Array Value} (h : w.heap[b]? = some (.cells cs 24 (0, 0))) (o : Nat) (u : Value) :
    (w.setCell ⟨b, o, none⟩ u).heap[b]? = some (.cells (cs.setIfInBounds o u) 24 (0, 0)) := heap_setCell_same w b o cs 24 u h

theorem cod_ne {c : Nat} {x : Option Obj} (h : w.heap[c]? = x) (hne : c ≠ b) (o : Nat) (u : Value) : (w.setCell ⟨b, o, none⟩ u).heap[c]? = x := by
  rw [Below.heap_setCell _ _ _ _ hne]; exact h

theorem cod_alloc {c : Nat} {x : Obj} (h : w.heap[c]? = some x) (o : Obj) : (w.alloc o).heap[c]? = some x := by
  rw [Below.heap_alloc _ _ _ (Array.getElem?_eq_some_iff.1 h).1]; exact h
end

theorem grown_refl (w : World) (r : Option Nat) : w.grownBy w r := ⟨rfl, rfl, rfl, Nat.le_refl _, fun _ _ _ => rfl⟩

theorem grown_set (w : World) (b : Nat) (o : Nat) (v : Value) : w.grownBy (w.setCell ⟨b, o, none⟩ v) (some b) :=
  ⟨rfl, rfl, rfl, by simp [World.setCell], fun k _ hk => Below.heap_setCell _ _ _ _ (by intro e; apply hk; simp [e])⟩

theorem cell_new {w : World} {n : Nat} (hn : n = w.heap.size) (x : Value) (t : TypeId) : (w.alloc (.cells #[x] t)).cell? ⟨n, 0, none⟩ = some x := by
  subst hn; have := heap_alloc_new w (.cells #[x] t); simp only [World.cell?, this]; rfl

/-- While bytes go through. o: what lies in the block behind. -/
structure FInv (w0 : World) (b : Nat) (o : Obj) (L : Lin) (v : Value) (wr : World) : Prop where
  lo : w0.heap.size ≤ b
  below : Below w0.heap.size w0 wr
  cod : Cod wr b L v
  other : wr.heap[b + 1]? = some o
  own : wr.ownsRow (b + 2) 9 1 v L.q.length (scells L.q)

section
variable {w0 wr w' : World} {b : Nat} {o : Obj} {L L' : Lin} {v v' : Value}

theorem FInv.room (h : FInv w0 b o L v wr) : b + 2 ≤ wr.heap.size := (Array.getElem?_eq_some_iff.1 h.other).1

/-- A store into the lines' own block that leaves the list alone. -/
theorem FInv.put (h : FInv w0 b o L v wr) (f : Nat) (u : Value) (hc : (L.cells v).setIfInBounds f u = L'.cells v) (hq : L'.q = L.q) : FInv w0 b o L' v (wr.setCell ⟨b, f, none⟩ u) := by
  refine ⟨h.lo, h.below.setCell h.lo _, cod_mk (cod_set h.cod f u) hc, cod_ne h.other (by omega) _ _, ?_⟩
  rw [hq]
  refine h.own.kept (grown_set wr b f u) ?_
  right; intro e; have := h.own.lt _ e; omega

theorem FInv.alloc (h : FInv w0 b o L v wr) (x : Obj) : FInv w0 b o L v (wr.alloc x) :=
  ⟨h.lo, h.below.alloc (by have := h.room; have := h.lo; omega) x, cod_alloc h.cod x, cod_alloc h.other x, h.own.alloc x⟩

/-- Behind an append to the list, ahead of the store: the list is v', the field still v. -/
theorem FInv.grow {q : List ByteArray} (h : FInv w0 b o L v wr) (ho : w'.ownsRow (b + 2) 9 1 v' q.length (scells q)) (hg : wr.grownBy w' v.ownBlock) :
    Below w0.heap.size w0 w' ∧ Cod w' b L v ∧ w'.heap[b + 1]? = some o ∧ w'.ownsRow (b + 2) 9 1 v' q.length (scells q) := by
  have hr := h.room
  have hl := h.lo
  have hk : ∀ k, v.ownBlock = some k → b + 2 ≤ k := fun k e => (h.own.lt k e).1
  refine ⟨h.below.grown hg (by omega) (fun k e => by have := hk k e; omega), ?_, ?_, ho⟩
  · unfold Cod; rw [hg.block _ (by omega) (fun e => by have := hk _ e.symm; omega)]; exact h.cod
  · rw [hg.block _ (by omega) (fun e => by have := hk _ e.symm; omega)]; exact h.other

end

set_option maxRecDepth 100000 in
set_option maxHeartbeats 1000000 in
theorem end_any (w0 : World) (b : Nat) (o : Obj) (L : Lin) (v : Value) (w : World) (h : FInv w0 b o L v w) (h6 : L.q.length ≤ 6) :
    Calls Try.prog 22 #[.pointer (some ⟨b, 0, none⟩)] w fun e w' => e = .returned (.bool (decide (L.q.length < 6))) ∧ ∃ v', FInv w0 b o (endL L) v' w' := by
  obtain ⟨i0, hi, hz0, hz1, hz2⟩ := info_parts Try.info9
  obtain ⟨c0, c1, c2, c3, hfz⟩ := h.cod.all
  have h1 := (h.put (L' := { L with now := ⟨#[]⟩ }) 0 (.string ⟨#[]⟩) rfl rfl).put (L' := { L with now := ⟨#[]⟩, long := false }) 1 (.bool false) rfl rfl
  have hvs : ∃ (av : Option Addr) (cap : Nat), v = .slice av L.q.length cap := by
    obtain ⟨av, cap, e, _⟩ := reads_own h.own; exact ⟨av, cap, e⟩
  obtain ⟨av, cap, rfl⟩ := hvs
  by_cases hf : 6 ≤ L.q.length
  · have he : endL L = { L with now := ⟨#[]⟩, long := false } := by simp [endL, hf]
    have hd := hide (show decide (L.q.length < 6) = false by simp; omega)
    replace h1 := hide h1
    replace he := hide he
    clear h
    go_enter Try.func22, Try.ntmps22
    go_wp2
    go_ret
    exact ⟨ret_bool hd.out.symm, _, by rw [he.out]; exact h1.out⟩
  · have hd := hide (show decide (L.q.length < 6) = true by simp; omega)
    have hroom := h.room
    have H1 := hide h1
    have HB := hide h
    clear h h1
    go_enter Try.func22, Try.ntmps22
    go_wp2_with (at_builtin; refine wpList_append_own_at _ rfl (.tmp 24) (.tmp 26) 22 rfl (b + 2) 9 i0 (.string ⟨#[]⟩) 1 16 Try.underlying22 hi hz0 hz1 hz2 rfl (by decide) _ L.q.length (scells L.q) rfl (H1.out.own.alloc _) ⟨w.heap.size, 0, none⟩ 1 1 (scells [L.now]) rfl ?c1 ?c2 (scells_one _) ?c3 ?c4 ?c5 ?_)
    case c1 => rfl
    case c2 =>
      intro j u hj
      cases j with
      | zero => simp [scells] at hj; subst hj; exact cell_new (by simp) _ _
      | succ j => simp [scells] at hj
    case c3 => unfold maxLen; omega
    case c4 => omega
    case c5 => simp; omega
    intro v' w' ho hg _ _
    have ho' : w'.ownsRow (b + 2) 9 1 v' (L.q ++ [L.now]).length (scells (L.q ++ [L.now])) := by
      rw [scells_append, List.length_append]; exact ho
    obtain ⟨k1, k2, k3, k4⟩ := (H1.out.alloc (.cells #[.string L.now] 9)).grow ho' (by simpa using hg)
    have hlo := HB.out.lo
    have hvs : ∃ (av : Option Addr) (n cap : Nat), v' = .slice av n cap := by
      obtain ⟨av, cap, e, _⟩ := reads_own k4; exact ⟨av, _, cap, e⟩
    obtain ⟨av', n', cap', rfl⟩ := hvs
    have HK := hide (⟨k1, k2, k3, k4⟩ : _ ∧ _ ∧ _ ∧ _)
    obtain ⟨d0, d1, d2, d3, hfd⟩ := k2.all
    clear ho hg ho' k1 k2 k3 k4 c0 c1 c2 c3 hfz
    go_wp2
    go_ret
    obtain ⟨k1, k2, k3, k4⟩ := HK.out
    refine ⟨ret_bool hd.out.symm, .slice av' n' cap', hlo, k1.setCell hlo _, cod_mk (cod_set k2 3 _) ?_, cod_ne k3 (by omega) _ _, ?_⟩
    · simp [endL, hf, Lin.cells]
    · have : (endL L).q = L.q ++ [L.now] := by simp [endL, hf]
      rw [this]
      refine k4.kept (grown_set w' b 3 _) ?_
      right; intro e; have := k4.lt _ e; omega
end Go.Proofs.Ytpbadpebnhlmlab
