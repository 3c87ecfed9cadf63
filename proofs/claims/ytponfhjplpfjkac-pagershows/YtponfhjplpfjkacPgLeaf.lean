/-
  The contracts of goodHeight, Good, refused, sent and asked of package pager, of slices.Clone, and of own.
-/
import Derived.Test.YtponfhjplpfjkacPgMem
namespace Go.Proofs.Ytponfhjplpfjkac
open Go.RowKit
set_option linter.unusedVariables false

theorem gh_any (n : Int) (w : World) : Calls Try.prog 20 #[.int .i64 n] w fun e w' => e = .returned (.bool (gheight n)) ∧ w' = w := by
  by_cases h : 0 ≤ n
  · have HV := hide (by simp [gheight, h] : gheight n = decide (n ≤ 200))
    go_enter Try.func20, Try.ntmps20
    go_wp2
    all_goals go_ret
    all_goals refine ⟨ret_bool ?_, rfl⟩
    all_goals rw [HV.out]
    all_goals first | (simp_all; done) | (simp_all; omega)
  · have HV := hide (by simp [gheight, h] : gheight n = false)
    go_enter Try.func20, Try.ntmps20
    go_wp2
    all_goals go_ret
    all_goals refine ⟨ret_bool ?_, rfl⟩
    all_goals rw [HV.out]
    all_goals first | (simp_all; done) | (simp_all; omega)

set_option maxRecDepth 100000 in
set_option maxHeartbeats 400000 in
theorem good_any (P : Pg) (v : Value) (w : World) (hv : Reads w v P.wait) (hs : Small P) : Calls Try.prog 19 #[.agg (P.cells v)] w fun e w' => e = .returned (.bool (goodP P)) ∧ Below w.heap.size w w' := by
  have C1 := hide (gh_any P.shown)
  have hr := hs.ring
  have hl := hv.max
  obtain ⟨av, cap, rfl⟩ := hv.shape
  unfold maxLen at hl
  clear hv hs
  unfold Pg.cells
  by_cases h1 : P.wait.length ≤ 60
  · by_cases h2 : P.ring.size ≤ 700
    · have HV := hide (by simp [goodP, h1, h2] : goodP P = gheight P.shown)
      go_enter Try.func19, Try.ntmps19
      go_wp2_with (go_at_call 20; refine (C1.out _).mono ?_; rintro e w1 ⟨rfl, rfl⟩)
      go_ret
      exact ⟨ret_bool HV.out.symm, (Below.refl _ _).alloc (Nat.le_refl _) _⟩
    · have HV := hide (by simp [goodP, h2] : goodP P = false)
      go_enter Try.func19, Try.ntmps19
      go_wp2
      go_ret
      exact ⟨ret_bool HV.out.symm, (Below.refl _ _).alloc (Nat.le_refl _) _⟩
  · have HV := hide (by simp [goodP, h1] : goodP P = false)
    go_enter Try.func19, Try.ntmps19
    go_wp2
    go_ret
    exact ⟨ret_bool HV.out.symm, (Below.refl _ _).alloc (Nat.le_refl _) _⟩

/-- Why a page takes nothing more. -/
def refusal (P : Pg) : Int := if goodP P = false then 2 else if P.cut = true then 6 else 0

set_option maxRecDepth 100000 in
set_option maxHeartbeats 400000 in
theorem refused_any (P : Pg) (v : Value) (w : World) (hv : Reads w v P.wait) (hs : Small P) : Calls Try.prog 17 #[.agg (P.cells v)] w fun e w' => e = .returned (.int .i64 (refusal P)) ∧ Below w.heap.size w w' := by
  have C1 := hide (fun w' h => good_any P v w' h hs)
  have hv1 := hide hv
  obtain ⟨av, cap, rfl⟩ := hv.shape
  clear hv hs
  unfold Pg.cells at C1 ⊢
  cases hg : goodP P
  · have HV := hide (by simp [refusal, hg] : refusal P = 2)
    replace hg := hide hg
    go_enter Try.func17, Try.ntmps17
    go_wp2_with fail
    refine (C1.out _ (hv1.out.alloc _)).mono ?_
    rintro e w1 ⟨rfl, hb1⟩
    rw [hg.out]
    go_wp2
    go_ret
    exact ⟨by rw [HV.out]; rfl, ((Below.refl _ _).alloc (Nat.le_refl _) _).trans (hb1.mono (by simp))⟩
  · have HC : Hid (∀ w1, Below (w.heap.size + 1) (w.alloc (.cells (P.cells (.slice av P.wait.length cap)) 25)) w1 → w1.cell? ⟨w.heap.size, 4, none⟩ = some (.bool P.cut)) := by
      intro w1 hb
      exact (cod_new hb (Nat.lt_succ_self _)).cell 4
    cases hc : P.cut
    · have HV := hide (by simp [refusal, hg, hc] : refusal P = 0)
      replace hg := hide hg
      rw [hc] at HC C1
      replace hc := hide hc
      go_enter Try.func17, Try.ntmps17
      go_wp2_with fail
      refine (C1.out _ (hv1.out.alloc _)).mono ?_
      rintro e w1 ⟨rfl, hb1⟩
      rw [hg.out]
      have hc4 := HC.out w1 (by rw [World.size_alloc] at hb1; unfold Pg.cells; rw [hc.out]; exact hb1)
      go_wp2
      go_ret
      exact ⟨by rw [HV.out]; rfl, ((Below.refl _ _).alloc (Nat.le_refl _) _).trans (hb1.mono (by simp))⟩
    · have HV := hide (by simp [refusal, hg, hc] : refusal P = 6)
      replace hg := hide hg
      rw [hc] at HC C1
      replace hc := hide hc
      go_enter Try.func17, Try.ntmps17
      go_wp2_with fail
      refine (C1.out _ (hv1.out.alloc _)).mono ?_
      rintro e w1 ⟨rfl, hb1⟩
      rw [hg.out]
      have hc4 := HC.out w1 (by rw [World.size_alloc] at hb1; unfold Pg.cells; rw [hc.out]; exact hb1)
      go_wp2
      go_ret
      exact ⟨by rw [HV.out]; rfl, ((Below.refl _ _).alloc (Nat.le_refl _) _).trans (hb1.mono (by simp))⟩

set_option maxRecDepth 100000 in
set_option maxHeartbeats 400000 in
theorem clone_any (q : List ByteArray) (v : Value) (w : World) (hv : Reads w v q) (hq : q.length * 16 ≤ 140737488355328) : Calls Try.prog 33 #[v] w fun e w' => ∃ v', e = .returned v' ∧ w'.ownsRow w.heap.size 9 1 v' q.length (scells q) ∧ Below w.heap.size w w' := by
  obtain ⟨av, cap, rfl, hl, hm, hn, hc⟩ := hv
  obtain ⟨i0, hi, hz0, hz1, hz2⟩ := info_parts Try.info9
  have hnil : ∀ (w : World) (a : Option Addr) (n c : Nat), (binOp .eql 22 (.slice a n c) (.slice none 0 0)).run Try.prog w = .ok (.bool a.isNone) w := fun w a n c => by
    rw [Lib.run_eql_slice_nil w 22 9 a n c 0 0 Try.underlying22]
  cases av with
  | none =>
    have := hn rfl
    have hq0 : q = [] := List.eq_nil_of_length_eq_zero (by omega)
    subst this hq0
    clear hn hc
    go_enter Try.func33, Try.ntmps33
    go_wp2
    go_ret
    exact ⟨_, rfl, World.ownsRow_nil _ _ _ _, Below.refl _ _⟩
  | some a =>
    have hlist := Reads.list (cap := cap) hc
    replace hlist := hide hlist
    clear hc hn
    go_enter Try.func33, Try.ntmps33
    go_wp2_with (at_builtin; go_loud (refine wpList_append_own_at _ rfl (.tmp 5) (.tmp 6) 22 rfl w.heap.size 9 i0 (.string ⟨#[]⟩) 1 16 Try.underlying22 hi hz0 hz1 hz2 rfl (by decide) _ 0 [] rfl (own_empty w) a q.length cap (scells q) rfl ?c1 ?c2 (scells_one q) ?c3 ?c4 ?c5 ?_))
    case c1 => simp [scells]
    case c2 =>
      intro j u hj
      have h := hlist.out j u hj
      have hlt := cell_lt h
      rw [((Below.refl w.heap.size w).alloc (Nat.le_refl _) _).cell (p := a.add j) hlt]; exact h
    case c3 => unfold maxLen; omega
    case c4 => omega
    case c5 => simp
    intro v' w' ho hg _ _
    go_wp2
    go_ret
    refine ⟨v', rfl, by simpa using ho, ?_⟩
    exact ((Below.refl _ _).alloc (Nat.le_refl _) _).grown hg (by simp) (fun k e => by simp [Value.ownBlock] at e; omega)

/-- What stands behind own and its like: the page in block b with a list of the call's own, a page of nothing behind it. -/
structure Inv (w0 : World) (b : Nat) (P : Pg) (v : Value) (wr : World) : Prop where
  lo : w0.heap.size ≤ b
  below : Below w0.heap.size w0 wr
  cod : Cod wr b P v
  other : Cod wr (b + 1) zp (.slice none 0 0)
  reads : Reads wr v P.wait
  far : Far (b + 2) v

section
variable {w0 wr w' : World} {b : Nat} {P P' : Pg} {v v' : Value}

theorem Inv.room (h : Inv w0 b P v wr) : b + 1 < wr.heap.size := h.other.lt

/-- A store into the page's block. -/
theorem Inv.put (h : Inv w0 b P v wr) (f : Nat) (u : Value) (hc : (P.cells v).setIfInBounds f u = P'.cells v') (hq : Reads wr v' P'.wait) (hf : Far (b + 2) v') : Inv w0 b P' v' (wr.setCell ⟨b, f, none⟩ u) :=
  ⟨h.lo, h.below.setCell h.lo _, cod_mk (cod_set h.cod f u) hc, cod_ne h.other (by omega) _ _, hq.put (off_far hf (by omega)) _ _, hf⟩

theorem Inv.behind {B : Nat} (h : Inv w0 b P v wr) (hb : Below B wr w') (hB : wr.heap.size ≤ B) : Inv w0 b P v w' :=
  ⟨h.lo, h.below.trans (hb.mono (by have := h.below.size; omega)), cod_behind h.cod hb hB, cod_behind h.other hb hB, h.reads.below hb hB, h.far⟩

/-- A whole page is laid over the block's. -/
theorem Inv.lay (h : Inv w0 b P v wr) (hq : Reads wr v' P'.wait) (hf : Far (b + 2) v') :
    Inv w0 b P' v' (((((wr.setCell ⟨b, 0, none⟩ v').setCell ⟨b, 1, none⟩ (.int .i64 P'.shown)).setCell ⟨b, 2, none⟩ (.bool P'.asking)).setCell ⟨b, 3, none⟩ (.string P'.ring)).setCell ⟨b, 4, none⟩ (.bool P'.cut)) :=
  ⟨h.lo, below_five h.below h.lo, cod_five h.cod, cod_five_ne h.other (by omega), reads_five hq (off_far hf (by omega)), hf⟩

/-- The page is laid into the result's block. -/
theorem Inv.done (h : Inv w0 b P v wr) :
    Cod (((((wr.setCell ⟨b + 1, 0, none⟩ v).setCell ⟨b + 1, 1, none⟩ (.int .i64 P.shown)).setCell ⟨b + 1, 2, none⟩ (.bool P.asking)).setCell ⟨b + 1, 3, none⟩ (.string P.ring)).setCell ⟨b + 1, 4, none⟩ (.bool P.cut)) (b + 1) P v ∧
    Reads (((((wr.setCell ⟨b + 1, 0, none⟩ v).setCell ⟨b + 1, 1, none⟩ (.int .i64 P.shown)).setCell ⟨b + 1, 2, none⟩ (.bool P.asking)).setCell ⟨b + 1, 3, none⟩ (.string P.ring)).setCell ⟨b + 1, 4, none⟩ (.bool P.cut)) v P.wait ∧
    Below w0.heap.size w0 (((((wr.setCell ⟨b + 1, 0, none⟩ v).setCell ⟨b + 1, 1, none⟩ (.int .i64 P.shown)).setCell ⟨b + 1, 2, none⟩ (.bool P.asking)).setCell ⟨b + 1, 3, none⟩ (.string P.ring)).setCell ⟨b + 1, 4, none⟩ (.bool P.cut)) :=
  ⟨cod_five h.other, reads_five h.reads (off_far h.far (by omega)), below_five h.below (by have := h.lo; omega)⟩
end

/-- Behind a call that made a list of its own out of two fresh blocks. -/
theorem inv_clone {w w2 : World} {P : Pg} {v v2 : Value} (hb : Below (w.heap.size + 2) ((w.alloc (.cells (P.cells v) 25)).alloc (.cells (zp.cells (.slice none 0 0)) 25)) w2)
    (ho : Reads w2 v2 P.wait) (hf : Far (w.heap.size + 2) v2) : Inv w w.heap.size P v2 (w2.setCell ⟨w.heap.size, 0, none⟩ v2) := by
  obtain ⟨k1, k2⟩ := cod_two (w := w) (P := P) (v := v)
  have k1' := cod_behind k1 hb (by simp)
  have k2' := cod_behind k2 hb (by simp)
  exact ⟨Nat.le_refl _, (below_two.trans (hb.mono (by omega))).setCell (Nat.le_refl _) _, cod_mk (cod_set k1' 0 v2) (by simp [Pg.cells]), cod_ne k2' (by omega) _ _, ho.put (off_far hf (by omega)) _ _, hf⟩

theorem own_base {w : World} {B B' : Nat} {v : Value} {n : Nat} {xs : List Value} (h : w.ownsRow B 9 1 v n xs) (hB : B' ≤ B) : w.ownsRow B' 9 1 v n xs := by
  refine ⟨h.1, ?_⟩
  rcases h.2 with h | ⟨g, cap, cur, h1, h2, h3⟩
  · exact .inl h
  · exact .inr ⟨g, cap, cur, h1, by omega, h3⟩

theorem own_put {w : World} {B b : Nat} {v : Value} {n : Nat} {xs : List Value} (h : w.ownsRow B 9 1 v n xs) (hb : b < B) (f : Nat) (u : Value) : (w.setCell ⟨b, f, none⟩ u).ownsRow B 9 1 v n xs :=
  h.kept (grown_set w b f u) (by right; intro e; have := h.lt _ e; omega)

theorem own_five {w : World} {B b : Nat} {v : Value} {n : Nat} {xs : List Value} {x0 x1 x2 x3 x4 : Value} (h : w.ownsRow B 9 1 v n xs) (hb : b < B) :
    (((((w.setCell ⟨b, 0, none⟩ x0).setCell ⟨b, 1, none⟩ x1).setCell ⟨b, 2, none⟩ x2).setCell ⟨b, 3, none⟩ x3).setCell ⟨b, 4, none⟩ x4).ownsRow B 9 1 v n xs :=
  own_put (own_put (own_put (own_put (own_put h hb _ _) hb _ _) hb _ _) hb _ _) hb _ _

set_option maxRecDepth 100000 in
set_option maxHeartbeats 400000 in
theorem own_all (P : Pg) (v : Value) (w : World) (hv : Reads w v P.wait) (hs : Small P) : Calls Try.prog 18 #[.agg (P.cells v)] w fun e w' => ∃ v', e = .returned (.agg (P.cells v')) ∧ w'.ownsRow (w.heap.size + 2) 9 1 v' P.wait.length (scells P.wait) ∧ Below w.heap.size w w' := by
  have C1 := hide (fun w' h => clone_any P.wait v w' h hs.len)
  have hv1 := hide hv
  obtain ⟨av, cap, rfl⟩ := hv.shape
  clear hv hs
  unfold Pg.cells
  go_enter Try.func18, Try.ntmps18
  go_wp2_with fail
  refine (C1.out _ ((hv1.out.alloc _).alloc _)).mono ?_
  rintro e w2 ⟨v2, rfl, ho, hb2⟩
  have hf := far_own ho
  rw [World.size_alloc, World.size_alloc] at hf hb2
  have hi := inv_clone (P := P) (v := .slice av P.wait.length cap) hb2 (reads_own ho) hf
  obtain ⟨av2, cap2, rfl⟩ := own_shape ho
  obtain ⟨k1, k2⟩ := cod_two (w := w) (P := P) (v := .slice av P.wait.length cap)
  obtain ⟨c0, c1, c2, c3, c4, hfz⟩ := (cod_behind k1 hb2 (by simp)).all
  obtain ⟨d0, d1, d2, d3, d4, hfd⟩ := (cod_behind k2 hb2 (by simp)).all
  have hz2 := (cod_behind k2 hb2 (by simp)).lt
  have HO := hide (own_put (own_base ho (by simp) : w2.ownsRow (w.heap.size + 2) 9 1 _ _ _) (b := w.heap.size) (by omega) 0 (.slice av2 P.wait.length cap2))
  replace hi := hide hi
  clear k1 k2 hb2 ho hf
  go_wp2
  obtain ⟨f1, f2, f3⟩ := hi.out.done
  exact bodyPost_ret (res1 Try.results18 rfl f1) rfl ⟨_, rfl, own_five HO.out (by omega), f3⟩

theorem own_any (P : Pg) (v : Value) (w : World) (hv : Reads w v P.wait) (hs : Small P) : Calls Try.prog 18 #[.agg (P.cells v)] w fun e w' => ∃ v', e = .returned (.agg (P.cells v')) ∧ Reads w' v' P.wait ∧ Far (w.heap.size + 2) v' ∧ Below w.heap.size w w' :=
  (own_all P v w hv hs).mono fun e w' ⟨v', h1, h2, h3⟩ => ⟨v', h1, reads_own h2, far_own h2, h3⟩
end Go.Proofs.Ytponfhjplpfjkac
