/-
  The walk of the law TelnetEnds, where both codecs are good.
-/
import Derived.Test.YtchkohogfcgknaaEndsW
namespace Go.Proofs.Ytchkohogfcgknaa
open Go.RowKit
set_option linter.unusedVariables false

set_option maxRecDepth 100000 in
set_option maxHeartbeats 2000000 in
theorem ends_good (t u : Tel) (v o : UInt8) (w : World) (ft : Fine t) (fu : Fine u) :
    Calls Try.prog 8 #[t.val, u.val, .int .u8 v.toNat, .int .u8 o.toNat] w fun e w' => e = .returned (.bool true) ∧ Below w.heap.size w w' := by
  have hst : t.sub.size ≤ maxLen := by have := ft.sub16; unfold maxLen; omega
  have hsu : u.sub.size ≤ maxLen := by have := fu.sub16; unfold maxLen; omega
  have hgt : good t = true := (fine_iff t).2 ft
  have hgu : good u = true := (fine_iff u).2 fu
  have HT := hide ft
  have HU := hide fu
  clear ft fu
  unfold Tel.val Tel.cells
  go_enter Try.func8, Try.ntmps8
  go_wp2_with fail
  refine (good_any t _ hst).mono ?_
  rintro e w1 ⟨rfl, hb1⟩
  have h1 := hb1.size
  simp at h1
  have l1 : Below w.heap.size w w1 := (((Below.refl _ _).alloc (Nat.le_refl _) _).alloc (by simp) _).trans (hb1.mono (by simp; omega))
  have k1 : Cod w1 (w.heap.size + 1) u := by
    have := heap_alloc_new (w.alloc (.cells t.cells 25)) (.cells u.cells 25)
    rw [World.size_alloc] at this
    unfold Cod; rw [hb1.block _ (by simp)]; exact this
  have m1 : Cod w1 w.heap.size t := by
    unfold Cod; rw [hb1.block _ (by simp; omega), Below.heap_alloc _ _ _ (by simp)]; exact heap_alloc_new w _
  clear hb1
  obtain ⟨c0, c1, c2, c3, c4, c5, c6, c7, c8, c9, cfz⟩ := k1.all
  go_wp2_with fail
  refine (good_any u _ hsu).mono ?_
  rintro e w2 ⟨rfl, hb2⟩
  have l2 : Below w.heap.size w w2 := l1.trans (hb2.mono l1.size)
  have k2 : Cod w2 (w.heap.size + 1) u := cod_mk (cod_below k1 hb2 k1.lt) rfl
  have m2 : Cod w2 w.heap.size t := cod_mk (cod_below m1 hb2 m1.lt) rfl
  have z2 := k2.lt
  have z2' := m2.lt
  clear hb2 k1 m1 l1 c0 c1 c2 c3 c4 c5 c6 c7 c8 c9 cfz hst hsu hgt h1
  obtain ⟨c0, c1, c2, c3, c4, c5, c6, c7, c8, c9, cfz⟩ := k2.all
  obtain ⟨d0, d1, d2, d3, d4, d5, d6, d7, d8, d9, dfz⟩ := m2.all
  have hcv := conv_cmd v o w2
  obtain ⟨T1, S1, U1, S2, T2, S3, U2, S4, f1, f2, f3, f4, hend⟩ := ends_feed t u HT.out HU.out v o
  replace hend := hide hend
  replace f1 := hide f1
  replace f2 := hide f2
  replace f3 := hide f3
  replace f4 := hide f4
  simp only [Tel.val, Tel.cells, calm] at f1 f2 f3 f4
  go_wp2_with fail
  refine wp_loop_rounds 2 ?_
  rw [rounds_succ]
  go_wp2_with fail
  refine (f1.out _).mono ?_
  rintro e w3 ⟨⟨X1, rfl⟩, hb3⟩
  obtain ⟨q3, r3, l3⟩ := calm_world m2 k2 l2 hb3
  clear hb3 k2 m2 l2 c0 c1 c2 c3 c4 c5 c6 c7 c8 c9 cfz d0 d1 d2 d3 d4 d5 d6 d7 d8 d9 dfz z2 z2' hcv
  have z3 := r3.lt
  obtain ⟨c0, c1, c2, c3, c4, c5, c6, c7, c8, c9, cfz⟩ := r3.all
  obtain ⟨d0, d1, d2, d3, d4, d5, d6, d7, d8, d9, dfz⟩ := q3.all
  cases e1 : S1.toList.isEmpty
  case true =>
    go_wp2_with (go_at_call 20; refine (feeds20 _).mono ?_; rintro e w9 ⟨rfl, hb9⟩)
    go_ret
    exact ⟨rfl, (ten_world q3 r3 l3 (Nat.le_refl _) (by omega) hb9).2.2⟩
  go_wp2_with fail
  refine (f2.out _).mono ?_
  rintro e w4 ⟨⟨X2, rfl⟩, hb4⟩
  obtain ⟨q4, r4, l4⟩ := ten_world q3 r3 l3 (Nat.le_refl _) (by omega) hb4
  clear c0 c1 c2 c3 c4 c5 c6 c7 c8 c9 cfz d0 d1 d2 d3 d4 d5 d6 d7 d8 d9 dfz
  clear hb4 q3 r3 l3 z3 f1 f2
  have z4 := r4.lt
  obtain ⟨c0, c1, c2, c3, c4, c5, c6, c7, c8, c9, cfz⟩ := r4.all
  obtain ⟨d0, d1, d2, d3, d4, d5, d6, d7, d8, d9, dfz⟩ := q4.all
  cases e2 : S2.toList.isEmpty
  case true =>
    go_wp2_with (go_at_call 20; refine (feeds20 _).mono ?_; rintro e w9 ⟨rfl, hb9⟩)
    go_ret
    exact ⟨rfl, (ten_world r4 q4 l4 (by omega) (by omega) hb9).2.2⟩
  go_wp2_with fail
  rw [rounds_succ]
  go_wp2_with fail
  refine (f3.out _).mono ?_
  rintro e w5 ⟨⟨X3, rfl⟩, hb5⟩
  obtain ⟨r5, q5, l5⟩ := ten_world r4 q4 l4 (by omega) (by omega) hb5
  clear c0 c1 c2 c3 c4 c5 c6 c7 c8 c9 cfz d0 d1 d2 d3 d4 d5 d6 d7 d8 d9 dfz
  clear hb5 q4 r4 l4 z4 f3
  have z5 := r5.lt
  obtain ⟨c0, c1, c2, c3, c4, c5, c6, c7, c8, c9, cfz⟩ := r5.all
  obtain ⟨d0, d1, d2, d3, d4, d5, d6, d7, d8, d9, dfz⟩ := q5.all
  cases e3 : S3.toList.isEmpty
  case true =>
    go_wp2_with (go_at_call 20; refine (feeds20 _).mono ?_; rintro e w9 ⟨rfl, hb9⟩)
    go_ret
    exact ⟨rfl, (ten_world q5 r5 l5 (Nat.le_refl _) (by omega) hb9).2.2⟩
  go_wp2_with fail
  refine (f4.out _).mono ?_
  rintro e w6 ⟨⟨X4, rfl⟩, hb6⟩
  obtain ⟨q6, r6, l6⟩ := ten_world q5 r5 l5 (Nat.le_refl _) (by omega) hb6
  clear c0 c1 c2 c3 c4 c5 c6 c7 c8 c9 cfz d0 d1 d2 d3 d4 d5 d6 d7 d8 d9 dfz
  clear hb6 q5 r5 l5 z5 f4
  have z6 := r6.lt
  obtain ⟨c0, c1, c2, c3, c4, c5, c6, c7, c8, c9, cfz⟩ := r6.all
  obtain ⟨d0, d1, d2, d3, d4, d5, d6, d7, d8, d9, dfz⟩ := q6.all
  have e4 : S4.toList.isEmpty = true := by
    rcases hend.out with h | h | h | h
    · rw [e1] at h; cases h
    · rw [e2] at h; cases h
    · rw [e3] at h; cases h
    · exact h
  go_wp2_with (go_at_call 20; refine (feeds20 _).mono ?_; rintro e w9 ⟨rfl, hb9⟩)
  go_ret
  exact ⟨rfl, (ten_world r6 q6 l6 (by omega) (by omega) hb9).2.2⟩

end Go.Proofs.Ytchkohogfcgknaa
