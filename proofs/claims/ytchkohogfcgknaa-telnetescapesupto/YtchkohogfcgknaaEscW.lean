/-
  The walk of the law TelnetEscapes.
-/
import Derived.Test.YtchkohogfcgknaaEq
import Derived.Deep.DeepCutAuto
namespace Go.Proofs.Ytchkohogfcgknaa
open Go.RowKit
set_option linter.unusedVariables false

theorem World.lt_alloc (w : World) (o : Obj) : w.heap.size < (w.alloc o).heap.size := by simp

theorem below_via {w0 w W w' : World} (hb : Below w0.heap.size w0 w) (hz : w0.heap.size < w.heap.size) (hB : Below W.heap.size W w') (hk : Below w.heap.size w W) : Below w0.heap.size w0 w' :=
  (hb.trans (hk.mono (by omega))).trans (hB.mono (by have := hk.size; omega))

theorem keep_cod {w W w' : World} {b : Nat} {t : Tel} (h : Cod w b t) (hB : Below W.heap.size W w') (hk : Below w.heap.size w W) : Cod w' b t := by
  have h1 := h.lt
  have h2 := hk.size
  unfold Cod; rw [hB.block b (by omega), hk.block b h1]; exact h

theorem new_cod {w W w' : World} (hB : Below W.heap.size W w') (hk : W.heap = (w.alloc (.cells zt.cells 25)).heap) : Cod w' w.heap.size zt := by
  unfold Cod; rw [hB.block _ (by rw [hk]; exact World.lt_alloc _ _), hk]; exact heap_alloc_new w _

theorem cod_ten_other {w : World} {b c : Nat} {t u : Tel} (h : Cod w c u) (hne : c ≠ b) :
    Cod ((((((((((w.setCell ⟨b, 0, none⟩ (.int .i64 t.pos)).setCell ⟨b, 1, none⟩ (.int .i64 t.verb)).setCell ⟨b, 2, none⟩ (.string t.sub)).setCell ⟨b, 3, none⟩ (.int .i64 t.u0)).setCell ⟨b, 4, none⟩ (.int .i64 t.u1)).setCell ⟨b, 5, none⟩ (.int .i64 t.u2)).setCell ⟨b, 6, none⟩ (.int .i64 t.t0)).setCell ⟨b, 7, none⟩ (.int .i64 t.t1)).setCell ⟨b, 8, none⟩ (.int .i64 t.t2)).setCell ⟨b, 9, none⟩ (.int .i64 t.height)) c u := by
  unfold Cod; rw [(grown_ten (t := t) (grown_refl w (some b))).block c h.lt (by simp; exact hne)]; exact h

theorem feed_esc (t : Tel) (hp : t.pos = 0) (l : List UInt8) : feedL t (escL l) = (t, l, []) := by
  induction l with
  | nil => rfl
  | cons c l ih =>
    have e : escL (c :: l) = escL [c] ++ escL l := escL_append [c] l
    have h1 : feedL t (escL [c]) = (t, [c], []) := by
      by_cases hc : c = 255
      · subst hc
        obtain ⟨p, v, s, a0, a1, a2, b0, b1, b2, hh⟩ := t
        have hp' : p = 0 := hp
        subst hp'
        rfl
      · have e1 : escL [c] = [c] := by simp [escL, hc]
        rw [e1]
        simp [feedL, step, hp, hc]
    rw [e, feedL_append, h1]
    simp [ih]

set_option maxRecDepth 100000 in
set_option maxHeartbeats 4000000 in
theorem escapes_else (t : Tel) (s : ByteArray) (w : World) (hsub : t.sub.size ≤ maxLen) (hno : good t = false ∨ (good t = true ∧ (t.pos != 0) = true)) :
    Calls Try.prog 7 #[t.val, .string s] w fun e w' => e = .returned (.bool true) ∧ Below w.heap.size w w' := by
  unfold Tel.val Tel.cells
  rcases hno with hg | ⟨hg, hp⟩
  all_goals
    go_enter Try.func7, Try.ntmps7
    go_wp2_with (first | (go_at_call 11; refine (good_any t _ hsub).mono ?_; rintro e w1 ⟨rfl, hb1⟩; obtain ⟨hc1, hf1⟩ := bcell hb1) | (go_at_call 20; refine (feeds20 _).mono ?_; rintro e w2 ⟨rfl, hb2⟩))
    go_ret
    exact ⟨rfl, (((Below.refl _ _).alloc (Nat.le_refl _) _).trans (hb1.mono (by simp))).trans (hb2.mono (by have := hb1.size; simp at this; omega))⟩

theorem feed_esc_calls (t : Tel) (s : ByteArray) (w : World) (hf : Fine t) (hp : t.pos = 0) (hs : s.size ≤ 1048576) :
    Calls Try.prog 9 #[t.val, .string ⟨(escL s.data.toList).toArray⟩] w fun e w' => e = .returned (.tuple #[t.val, .string s, .string ⟨#[]⟩, .int .i64 0]) ∧ Below w.heap.size w w' := by
  have hl := escL_len s.data.toList
  have hl' : s.data.toList.length = s.size := by simp
  have h := feed_good t ⟨(escL s.data.toList).toArray⟩ w hf (by rw [size_mk]; omega)
  rw [show (ByteArray.mk (escL s.data.toList).toArray).data.toList = escL s.data.toList from rfl, feed_esc t hp] at h
  exact h

set_option maxRecDepth 100000 in
set_option maxHeartbeats 4000000 in
theorem escapes_good (t : Tel) (s : ByteArray) (w : World) (hsub : t.sub.size ≤ maxLen) (hs : s.size ≤ 1048576) (hg : good t = true) (hp : (t.pos != 0) = false) :
    Calls Try.prog 7 #[t.val, .string s] w fun e w' => e = .returned (.bool true) ∧ Below w.heap.size w w' := by
  have hfine := hide ((fine_iff t).1 hg)
  have hp' := hide (show t.pos = 0 by simpa using hp)
  have hq := eq25 t
  have hq2 : ∀ w, (binOp .eql 25 t.val t.val).run Try.prog w = .ok (.bool true) w := fun w => by
    show (binOp .eql 25 (.agg t.cells) (.agg t.cells)).run Try.prog w = _
    rw [run_eql_struct]
    show ((Op.equalIn 10000 25 t.val t.val).run Try.prog w).andThen _ = _
    rw [hq]; rfl
  have hgt : Try.prog.eqGuardType Try.prog.depth 25 = false := by kernel_rfl
  unfold Tel.val Tel.cells at hq hq2 ⊢
  go_enter Try.func7, Try.ntmps7
  go_wp2_with (first | (go_at_call 11; refine (good_any t _ hsub).mono ?_; rintro e w1 ⟨rfl, hb1⟩; obtain ⟨hc1, hf1⟩ := bcell hb1))
  have hz1 : w.heap.size < w1.heap.size := by have := hb1.size; simp at this; omega
  have hcod : Cod w1 w.heap.size t := by
    show w1.heap[w.heap.size]? = _
    rw [hb1.block _ (by simp)]
    exact heap_alloc_new w _
  have hb : Below w.heap.size w w1 := ((Below.refl _ _).alloc (Nat.le_refl _) _).trans (hb1.mono (by simp))
  clear hc1 hf1 hb1
  obtain ⟨c0, c1, c2, c3, c4, c5, c6, c7, c8, c9, hfz⟩ := hcod.all
  have HE := hide (fun (w : World) => feed_esc_calls t s w hfine.out hp'.out hs)
  clear hsub
  unfold Tel.val Tel.cells at HE
  have hz1' : w.heap.size < w1.heap.size + 1 := Nat.lt_succ_of_lt hz1
  go_cut [5, 6, 7, 8] (fun s5 s6 s7 s8 wx => ∃ b : Nat, s5 = .pointer (some ⟨b, 0, none⟩) ∧ s6 = .string s ∧ s7 = .string ⟨#[]⟩ ∧ s8 = .int .i64 0 ∧ Cod wx b t ∧ Cod wx w.heap.size t ∧ Below w.heap.size w wx)
  case first =>
    go_region_with (first | (go_at_call 13; refine (escape_any s _ hs).mono ?_; rintro e w2 ⟨rfl, hb2⟩; have hs2 := hb2.size; (try simp at hs2); have hz2 : w.heap.size < w2.heap.size := (by omega); have hcod2 : Cod w2 w.heap.size t := keep_cod hcod hb2 (by first | exact Below.refl _ _ | exact (Below.refl _ _).drew | exact (Below.refl _ _).alloc (Nat.le_refl _) _ | exact ((Below.refl _ _).alloc (Nat.le_refl _) _).drew); have hw2 : Below w.heap.size w w2 := below_via hb hz1 hb2 (by first | exact Below.refl _ _ | exact (Below.refl _ _).drew | exact (Below.refl _ _).alloc (Nat.le_refl _) _ | exact ((Below.refl _ _).alloc (Nat.le_refl _) _).drew); obtain ⟨d0, d1, d2, d3, d4, d5, d6, d7, d8, d9, dfz⟩ := hcod2.all; (try (have hcx2 : Cod w2 w1.heap.size zt := new_cod (w := w1) hb2 rfl; obtain ⟨x0, x1, x2, x3, x4, x5, x6, x7, x8, x9, xfz⟩ := hcx2.all))) | (go_at_call 9; refine (HE.out _).mono ?_; rintro e w3 ⟨rfl, hb3⟩; have hs3 := hb3.size; (try simp at hs3); have hz3 : w.heap.size < w3.heap.size := (by omega); have hcod3 : Cod w3 w.heap.size t := keep_cod hcod2 hb3 (by first | exact Below.refl _ _ | exact (Below.refl _ _).drew | exact (Below.refl _ _).alloc (Nat.le_refl _) _ | exact ((Below.refl _ _).alloc (Nat.le_refl _) _).drew); have hw3 : Below w.heap.size w w3 := below_via hw2 hz2 hb3 (by first | exact Below.refl _ _ | exact (Below.refl _ _).drew | exact (Below.refl _ _).alloc (Nat.le_refl _) _ | exact ((Below.refl _ _).alloc (Nat.le_refl _) _).drew); (try (have hcx3 : Cod w3 w1.heap.size zt := cod_below hcx2 hb3 hs2; obtain ⟨y0, y1, y2, y3, y4, y5, y6, y7, y8, y9, yfz⟩ := hcx3.all)); (try (have hcx3 : Cod w3 w2.heap.size zt := new_cod (w := w2) hb3 rfl; obtain ⟨y0, y1, y2, y3, y4, y5, y6, y7, y8, y9, yfz⟩ := hcx3.all))))
    all_goals go_wp2_with fail
    all_goals go_meet
    all_goals first | (have hcy := hcx3; exact ⟨_, rfl, rfl, rfl, rfl, cod_ten hcy, cod_ten_other hcod3 (by omega), below_ten hw3 (by omega)⟩) | exact ⟨_, rfl, rfl, rfl, rfl, heap_alloc_new w3 _, cod_alloc hcod3 _, hw3.alloc hw3.size _⟩
  case rest =>
    obtain ⟨b, rfl, rfl, rfl, rfl, hcb, hct, hbw⟩ := hcut
    clear hcod hb c0 c1 c2 c3 c4 c5 c6 c7 c8 c9 hfz HE
    obtain ⟨b0, b1, b2, b3, b4, b5, b6, b7, b8, b9, hbz⟩ := hcb.all
    obtain ⟨c0, c1, c2, c3, c4, c5, c6, c7, c8, c9, hfz⟩ := hct.all
    go_wp2_with (go_at_call 20; refine (feeds20 _).mono ?_; rintro e w5 ⟨rfl, hb5⟩)
    go_ret
    exact ⟨rfl, hbw.trans (hb5.mono hbw.size)⟩
end Go.Proofs.Ytchkohogfcgknaa
