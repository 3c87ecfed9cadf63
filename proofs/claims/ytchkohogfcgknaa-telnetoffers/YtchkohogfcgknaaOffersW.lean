/-
  The walk of the law TelnetOffers.
-/
import Derived.Test.YtchkohogfcgknaaRefOffer
import Derived.Test.YtchkohogfcgknaaPartsW
namespace Go.Proofs.Ytchkohogfcgknaa
open Go.RowKit
set_option linter.unusedVariables false

theorem off_both (t : Tel) (o : Int) (hs : t.sub.size ≤ maxLen) : ∃ (T : Tel) (S : ByteArray) (E : Int),
    (∀ w, Calls Try.prog 16 #[t.val, .int .i64 o] w fun e w' => e = .returned (.tuple #[T.val, .string S, .int .i64 E]) ∧ Below w.heap.size w w') ∧
    (∀ w, Calls Try.prog 17 #[t.val, .int .i64 o] w fun e w' => e = .returned (.tuple #[T.val, .string S, .int .i64 E]) ∧ Below w.heap.size w w') := by
  cases hg : good t
  · exact ⟨_, _, _, fun w => offer_bad t o w hs hg, fun w => roffer_bad t o w hs hg⟩
  by_cases h1 : o = 1
  · subst h1
    by_cases hn : t.u0 = 0
    · exact ⟨_, _, _, fun w => offer_new1 t w hs hg hn, fun w => roffer_new1 t w hs hg hn⟩
    · have hn' : (t.u0 != 0) = true := by simpa using hn
      exact ⟨_, _, _, fun w => offer_set1 t w hs hg hn', fun w => roffer_set1 t w hs hg hn'⟩
  by_cases h3 : o = 3
  · subst h3
    by_cases hn : t.u1 = 0
    · exact ⟨_, _, _, fun w => offer_new3 t w hs hg hn, fun w => roffer_new3 t w hs hg hn⟩
    · have hn' : (t.u1 != 0) = true := by simpa using hn
      exact ⟨_, _, _, fun w => offer_set3 t w hs hg hn', fun w => roffer_set3 t w hs hg hn'⟩
  have e1 : (o == 1) = false := by simpa using h1
  have e3 : (o == 3) = false := by simpa using h3
  exact ⟨_, _, _, fun w => offer_none t o w hs hg e1 e3, fun w => roffer_none t o w hs hg e1 e3⟩

theorem ask_both (t : Tel) (o : Int) (hs : t.sub.size ≤ maxLen) : ∃ (T : Tel) (S : ByteArray) (E : Int),
    (∀ w, Calls Try.prog 18 #[t.val, .int .i64 o] w fun e w' => e = .returned (.tuple #[T.val, .string S, .int .i64 E]) ∧ Below w.heap.size w w') ∧
    (∀ w, Calls Try.prog 19 #[t.val, .int .i64 o] w fun e w' => e = .returned (.tuple #[T.val, .string S, .int .i64 E]) ∧ Below w.heap.size w w') := by
  cases hg : good t
  · exact ⟨_, _, _, fun w => ask_bad t o w hs hg, fun w => rask_bad t o w hs hg⟩
  by_cases h1 : o = 3
  · subst h1
    by_cases hn : t.t1 = 0
    · exact ⟨_, _, _, fun w => ask_new3 t w hs hg hn, fun w => rask_new3 t w hs hg hn⟩
    · have hn' : (t.t1 != 0) = true := by simpa using hn
      exact ⟨_, _, _, fun w => ask_set3 t w hs hg hn', fun w => rask_set3 t w hs hg hn'⟩
  by_cases h3 : o = 31
  · subst h3
    by_cases hn : t.t2 = 0
    · exact ⟨_, _, _, fun w => ask_new31 t w hs hg hn, fun w => rask_new31 t w hs hg hn⟩
    · have hn' : (t.t2 != 0) = true := by simpa using hn
      exact ⟨_, _, _, fun w => ask_set31 t w hs hg hn', fun w => rask_set31 t w hs hg hn'⟩
  have e1 : (o == 3) = false := by simpa using h1
  have e3 : (o == 31) = false := by simpa using h3
  exact ⟨_, _, _, fun w => ask_none t o w hs hg e1 e3, fun w => rask_none t o w hs hg e1 e3⟩

theorem eql_self (t : Tel) (w : World) : (binOp .eql 25 t.val t.val).run Try.prog w = .ok (.bool true) w := by
  show (binOp .eql 25 (.agg t.cells) (.agg t.cells)).run Try.prog w = _
  rw [run_eql_struct]
  show ((Op.equalIn 10000 25 t.val t.val).run Try.prog w).andThen _ = _
  rw [eq25]; rfl

set_option maxRecDepth 100000 in
set_option maxHeartbeats 2000000 in
theorem offers_any (t : Tel) (o : Int) (w : World) (hs : t.sub.size ≤ maxLen) :
    Calls Try.prog 5 #[t.val, .int .i64 o] w fun e w' => e = .returned (.bool true) ∧ Below w.heap.size w w' := by
  obtain ⟨T, S, E, C1, C2⟩ := off_both t o hs
  obtain ⟨U, R, F, C3, C4⟩ := ask_both t o hs
  have q1 := eql_self T
  have q2 := eql_self U
  have q3 := eq25 T
  have q4 := eq25 U
  have hgt : Try.prog.eqGuardType Try.prog.depth 25 = false := by kernel_rfl
  replace C1 := hide C1
  replace C2 := hide C2
  replace C3 := hide C3
  replace C4 := hide C4
  unfold Tel.val Tel.cells at C1 C2 C3 C4 q1 q2 q3 q4 ⊢
  go_enter Try.func5, Try.ntmps5
  go_wp2_with fail
  refine (C1.out _).mono ?_
  rintro e w1 ⟨rfl, hb1⟩
  have k1 : Cod w1 w.heap.size t := cod_new hb1 (by simp)
  have l1 : Below w.heap.size w w1 := below_old (Below.refl _ _) hb1 (by simp)
  have z1 := k1.lt
  clear hb1
  obtain ⟨c0, c1, c2, c3, c4, c5, c6, c7, c8, c9, cfz⟩ := k1.all
  go_wp2_with fail
  refine (C2.out _).mono ?_
  rintro e w2 ⟨rfl, hb2⟩
  have k2 : Cod w2 w.heap.size t := cod_old k1 hb2 (by simp)
  have l2 : Below w.heap.size w w2 := below_old l1 hb2 (by simp)
  have a2 : Cod w2 w1.heap.size T := cod_new hb2 (by simp)
  have z2 := k2.lt
  clear hb2 k1 l1 c0 c1 c2 c3 c4 c5 c6 c7 c8 c9 cfz
  obtain ⟨c0, c1, c2, c3, c4, c5, c6, c7, c8, c9, cfz⟩ := k2.all
  go_wp2_with fail
  refine (C3.out _).mono ?_
  rintro e w3 ⟨rfl, hb3⟩
  have k3 : Cod w3 w.heap.size t := cod_old k2 hb3 (by simp)
  have l3 : Below w.heap.size w w3 := below_old l2 hb3 (by simp)
  have a3 : Cod w3 w1.heap.size T := cod_old a2 hb3 (by simp)
  have b3 : Cod w3 w2.heap.size T := cod_new hb3 (by simp)
  have z3 := k3.lt
  clear hb3 k2 l2 a2 c0 c1 c2 c3 c4 c5 c6 c7 c8 c9 cfz
  obtain ⟨c0, c1, c2, c3, c4, c5, c6, c7, c8, c9, cfz⟩ := k3.all
  go_wp2_with fail
  refine (C4.out _).mono ?_
  rintro e w4 ⟨rfl, hb4⟩
  have l4 : Below w.heap.size w w4 := below_old l3 hb4 (by simp)
  have a4 : Cod w4 w1.heap.size T := cod_old a3 hb4 (by simp)
  have b4 : Cod w4 w2.heap.size T := cod_old b3 hb4 (by simp)
  have d4 : Cod w4 w3.heap.size U := cod_new hb4 (by simp)
  have za := a4.lt
  have zb := b4.lt
  have zd := d4.lt
  clear hb4 k3 l3 a3 b3 c0 c1 c2 c3 c4 c5 c6 c7 c8 c9 cfz z1 z2 z3
  obtain ⟨c0, c1, c2, c3, c4, c5, c6, c7, c8, c9, cfz⟩ := a4.all
  obtain ⟨x0, x1, x2, x3, x4, x5, x6, x7, x8, x9, xfz⟩ := b4.all
  obtain ⟨y0, y1, y2, y3, y4, y5, y6, y7, y8, y9, yfz⟩ := d4.all
  go_wp2_with (go_at_call 15; refine (feeds15 _).mono ?_; rintro e w5 ⟨rfl, hb5⟩)
  go_ret
  exact ⟨rfl, below_old l4 hb5 (by simp)⟩
end Go.Proofs.Ytchkohogfcgknaa
