/-
  The contract of Next of package line.
-/
import Derived.Test.YtpbadpebnhlmlabPartsW
namespace Go.Proofs.Ytpbadpebnhlmlab
open Go.RowKit
set_option linter.unusedVariables false

theorem reads_tail {w : World} {b off cap : Nat} {f : ByteArray} {r : List ByteArray} (h : Reads w (.slice (some ⟨b, off, none⟩) (f :: r).length cap) (f :: r)) :
    Reads w (.slice (if cap = 1 then some ⟨b, off, none⟩ else some ⟨b, off + 1, none⟩) r.length (cap - 1)) r := by
  obtain ⟨av, cap', e, hl, hm, hn, hc⟩ := h
  injection e with e1 e2 e3
  subst e1 e3
  obtain ⟨b', off', e, hcell⟩ := hc (by simp)
  injection e with e; injection e with e1 e2
  subst e1 e2
  simp only [List.length_cons] at hl
  refine ⟨_, cap - 1, rfl, by omega, by omega, ?_, ?_⟩
  · intro e; split at e <;> simp at e
  · intro h0
    refine ⟨b, off + 1, by rw [if_neg (by omega)], fun i hi => ?_⟩
    have := hcell (i + 1) (by simp; omega)
    rw [show off + 1 + i = off + (i + 1) by omega, this]
    simp

theorem Reads.put {w : World} {v : Value} {q : List ByteArray} (h : Reads w v q) {B : Nat} (hB : 0 < q.length → ∀ b off n c, v = .slice (some ⟨b, off, none⟩) n c → b ≠ B) (f : Nat) (x : Value) : Reads (w.setCell ⟨B, f, none⟩ x) v q := by
  obtain ⟨av, cap, rfl, hl, hm, hn, hc⟩ := h
  refine ⟨av, cap, rfl, hl, hm, hn, fun h0 => ?_⟩
  obtain ⟨b, off, rfl, hcell⟩ := hc h0
  have hne := hB h0 b off _ _ rfl
  refine ⟨b, off, rfl, fun i hi => ?_⟩
  rw [← hcell i hi]
  have e := Below.heap_setCell w ⟨B, f, none⟩ x b hne
  simp only [World.cell?, e]

theorem Reads.lt {w : World} {v : Value} {q : List ByteArray} (h : Reads w v q) (h0 : 0 < q.length) : ∀ b off n c, v = .slice (some ⟨b, off, none⟩) n c → b < w.heap.size := by
  obtain ⟨av, cap, rfl, hl, hm, hn, hc⟩ := h
  obtain ⟨b, off, rfl, hcell⟩ := hc h0
  intro b' off' n c e
  injection e with e1; injection e1 with e1; injection e1 with e1
  have := cell_lt (hcell 0 h0)
  simp only at this
  omega

set_option maxRecDepth 100000 in
set_option maxHeartbeats 1000000 in
theorem next_nil (L : Lin) (v : Value) (w : World) (hv : Reads w v L.q) (hq : L.q = []) :
    Calls Try.prog 13 #[.agg (L.cells v)] w fun e w' => ∃ v', e = .returned (.tuple #[.agg (L.cells v'), .string ⟨#[]⟩, .bool false]) ∧ Reads w' v' L.q ∧ Below w.heap.size w w' := by
  obtain ⟨now, long, ret, q⟩ := L
  simp only at hq
  subst hq
  have hv1 := hide hv
  obtain ⟨av, cap, rfl⟩ := hv.shape
  clear hv
  unfold Lin.cells
  go_enter Try.func13, Try.ntmps13
  go_wp2_with fail
  refine (clone_any [] _ _ ((hv1.out.alloc _).alloc _) (by decide)).mono ?_
  rintro e w2 ⟨v2, rfl, ho, hb2⟩
  obtain ⟨l2, k2, o2, hi⟩ := finv_start (L := ⟨now, long, ret, []⟩) (v := .slice av 0 cap) (Below.refl _ _) hb2 ho
  obtain ⟨av2, cap2, rfl⟩ := own_shape ho
  obtain ⟨c0, c1, c2, c3, hfz⟩ := k2.all
  obtain ⟨d0, d1, d2, d3, hfd⟩ := Cod.all (L := zl) (v := .slice none 0 0) o2
  have hz2 : w.heap.size + 1 < w2.heap.size := (Array.getElem?_eq_some_iff.1 o2).1
  replace hi := hide hi
  clear o2 k2 hb2 ho
  go_wp2
  obtain ⟨f1, f2, f3⟩ := hi.out.done
  exact bodyPost_ret (res3 Try.results13 rfl rfl rfl f1) rfl ⟨_, rfl, f2, f3⟩

theorem next_done {w0 wr : World} {b : Nat} {L : Lin} {g off cap2 : Nat} {f : ByteArray} {r : List ByteArray} (h : FInv w0 b (.cells (zl.cells (.slice none 0 0)) 24) L (.slice (some ⟨g, off, none⟩) L.q.length cap2) wr)
    (hq : L.q = f :: r) (A : Option Addr) (hA : A = if cap2 = 1 then some ⟨g, off, none⟩ else some ⟨g, off + 1, none⟩) :
    Cod (((((wr.setCell ⟨b, 3, none⟩ (.slice A (L.q.length - 1) (cap2 - 1))).setCell ⟨b + 1, 0, none⟩ (.string L.now)).setCell ⟨b + 1, 1, none⟩ (.bool L.long)).setCell ⟨b + 1, 2, none⟩ (.bool L.ret)).setCell ⟨b + 1, 3, none⟩ (.slice A (L.q.length - 1) (cap2 - 1))) (b + 1) { L with q := r } (.slice A (L.q.length - 1) (cap2 - 1)) ∧
    Reads (((((wr.setCell ⟨b, 3, none⟩ (.slice A (L.q.length - 1) (cap2 - 1))).setCell ⟨b + 1, 0, none⟩ (.string L.now)).setCell ⟨b + 1, 1, none⟩ (.bool L.long)).setCell ⟨b + 1, 2, none⟩ (.bool L.ret)).setCell ⟨b + 1, 3, none⟩ (.slice A (L.q.length - 1) (cap2 - 1))) (.slice A (L.q.length - 1) (cap2 - 1)) r ∧
    Below w0.heap.size w0 (((((wr.setCell ⟨b, 3, none⟩ (.slice A (L.q.length - 1) (cap2 - 1))).setCell ⟨b + 1, 0, none⟩ (.string L.now)).setCell ⟨b + 1, 1, none⟩ (.bool L.long)).setCell ⟨b + 1, 2, none⟩ (.bool L.ret)).setCell ⟨b + 1, 3, none⟩ (.slice A (L.q.length - 1) (cap2 - 1))) := by
  have hlo := h.lo
  have ho1 := h.own.kept (grown_set wr b 3 (.slice A (L.q.length - 1) (cap2 - 1))) (by right; intro e; have := h.own.lt _ e; omega)
  refine ⟨cod_four (L := { L with q := r }) (M := zl) (u := .slice none 0 0) (cod_ne h.other (by omega) _ _), ?_, below_four (h.below.setCell hlo _) (by omega)⟩
  have ho2 := reads_own (ho1.kept (grown_four (b := b + 1) (x0 := .string L.now) (x1 := .bool L.long) (x2 := .bool L.ret) (x3 := .slice A (L.q.length - 1) (cap2 - 1))) (by right; intro e; have := h.own.lt _ e; omega))
  have e1 : L.q.length - 1 = r.length := by rw [hq]; simp
  rw [e1] at ho2 ⊢
  rw [hq] at ho2
  rw [hA] at ho2 ⊢
  exact reads_tail ho2

set_option maxRecDepth 100000 in
set_option maxHeartbeats 1000000 in
theorem next_cons (L : Lin) (v : Value) (w : World) (hv : Reads w v L.q) (f : ByteArray) (r : List ByteArray) (hq : L.q = f :: r) (hlen : L.q.length ≤ 8796093022208) :
    Calls Try.prog 13 #[.agg (L.cells v)] w fun e w' => ∃ v', e = .returned (.tuple #[.agg (({ L with q := r } : Lin).cells v'), .string f, .bool true]) ∧ Reads w' v' r ∧ Below w.heap.size w w' ∧ ∀ b off n c, v' = .slice (some ⟨b, off, none⟩) n c → w.heap.size ≤ b := by
  have hv1 := hide hv
  obtain ⟨av, cap, rfl⟩ := hv.shape
  have HQ := hide hq
  have hqn : ¬ L.q = [] := by rw [hq]; simp
  have hq1 : 0 < L.q.length := by rw [hq]; simp
  clear hv hq
  unfold Lin.cells
  go_enter Try.func13, Try.ntmps13
  go_wp2_with fail
  refine (clone_any L.q _ _ ((hv1.out.alloc _).alloc _) hlen).mono ?_
  rintro e w2 ⟨v2, rfl, ho, hb2⟩
  obtain ⟨l2, k2, o2, hi⟩ := finv_start (L := L) (v := .slice av L.q.length cap) (Below.refl _ _) hb2 ho
  obtain ⟨av2, cap2, rfl, hl2, hm2, _, hc2⟩ := reads_own ho
  obtain ⟨g, off, rfl, hcell⟩ := hc2 (by omega)
  have hcell0 : w2.cell? ⟨g, off, none⟩ = some (.string f) := by
    have := hcell 0 (by omega)
    simpa [HQ.out] using this
  have hg := (ho.lt g rfl).1
  have hglt := cell_lt hcell0
  have hgne : ¬ g = w.heap.size := by simp at hg; omega
  have hgne' : ¬ g = w.heap.size + 1 := by simp at hg; omega
  obtain ⟨c0, c1, c2, c3, hfz⟩ := k2.all
  obtain ⟨d0, d1, d2, d3, hfd⟩ := Cod.all (L := zl) (v := .slice none 0 0) o2
  have hz2 : w.heap.size + 1 < w2.heap.size := (Array.getElem?_eq_some_iff.1 o2).1
  have hgw : w.heap.size ≤ g := by simp at hg; omega
  replace hi := hide hi
  clear o2 k2 hb2 ho hcell hc2
  go_wp2
  · have h1 : cap2 = 1 := by assumption
    subst h1
    obtain ⟨f1, f2, f3⟩ := next_done hi.out HQ.out (some ⟨g, off, none⟩) (by rw [if_pos rfl])
    simp only [Nat.sub_self] at f1 f2 f3
    exact bodyPost_ret (res3 Try.results13 rfl rfl rfl f1) rfl ⟨_, rfl, f2, f3, fun b off n c e => by injection e with e1; injection e1 with e1; injection e1 with e1; omega⟩
  · obtain ⟨f1, f2, f3⟩ := next_done hi.out HQ.out (some ⟨g, off + 1, none⟩) (by rw [if_neg (by assumption)])
    exact bodyPost_ret (res3 Try.results13 rfl rfl rfl f1) rfl ⟨_, rfl, f2, f3, fun b off n c e => by injection e with e1; injection e1 with e1; injection e1 with e1; omega⟩
end Go.Proofs.Ytpbadpebnhlmlab
