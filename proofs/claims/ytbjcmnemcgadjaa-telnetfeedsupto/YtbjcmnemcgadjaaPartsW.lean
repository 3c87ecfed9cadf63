/-
  The walk of the law TelnetParts.
-/
import Derived.Test.YtbjcmnemcgadjaaEq
namespace Go.Proofs.Ytbjcmnemcgadjaa
open Go.RowKit
set_option linter.unusedVariables false

theorem cod_new {w w' : World} {t : Tel} {B : Nat} (hB : Below B (w.alloc (.cells t.cells 25)) w') (hlt : w.heap.size < B) : Cod w' w.heap.size t := by
  unfold Cod; rw [hB.block _ hlt]; exact heap_alloc_new w _

theorem cod_old {w w' : World} {b : Nat} {t : Tel} {o : Obj} {B : Nat} (h : Cod w b t) (hB : Below B (w.alloc o) w') (hlt : w.heap.size ≤ B) : Cod w' b t := by
  have h1 := h.lt
  unfold Cod; rw [hB.block _ (by omega)]; exact cod_alloc h o

theorem below_old {w0 w w' : World} {o : Obj} {B : Nat} (h : Below w0.heap.size w0 w) (hB : Below B (w.alloc o) w') (hlt : w.heap.size ≤ B) : Below w0.heap.size w0 w' :=
  (h.alloc h.size o).trans (hB.mono (by have := h.size; omega))

set_option maxRecDepth 100000 in
set_option maxHeartbeats 2000000 in
theorem parts_bad (t : Tel) (a b : ByteArray) (w : World) (hsub : t.sub.size ≤ maxLen) (hab : a.size + b.size ≤ 1048576) (hg : good t = false) :
    Calls Try.prog 6 #[t.val, .string a, .string b] w fun e w' => e = .returned (.bool true) ∧ Below w.heap.size w w' := by
  have C1 := hide (fun (s : ByteArray) (w : World) => feed_bad t s w hsub hg)
  have hcc : ¬ 9223372036854775807 < a.size + b.size := by omega
  unfold Tel.val Tel.cells at C1 ⊢
  go_enter Try.func6, Try.ntmps6
  go_wp2_with fail
  refine (C1.out a _).mono ?_
  rintro e w1 ⟨rfl, hb1⟩
  have k1 : Cod w1 w.heap.size t := cod_new hb1 (by simp)
  have l1 : Below w.heap.size w w1 := below_old (Below.refl _ _) hb1 (by simp)
  have z1 := k1.lt
  clear hb1
  obtain ⟨c0, c1, c2, c3, c4, c5, c6, c7, c8, c9, cfz⟩ := k1.all
  go_wp2_with fail
  refine (C1.out b _).mono ?_
  rintro e w2 ⟨rfl, hb2⟩
  have k2 : Cod w2 w.heap.size t := cod_old k1 hb2 (by simp)
  have l2 : Below w.heap.size w w2 := below_old l1 hb2 (by simp)
  clear hb2 k1 l1 c0 c1 c2 c3 c4 c5 c6 c7 c8 c9 cfz
  obtain ⟨c0, c1, c2, c3, c4, c5, c6, c7, c8, c9, cfz⟩ := k2.all
  have z2 := k2.lt
  go_wp2_with fail
  refine (C1.out (a ++ b) _).mono ?_
  rintro e w3 ⟨rfl, hb3⟩
  have l3 : Below w.heap.size w w3 := below_old l2 hb3 (by simp)
  clear hb3 k2 l2 c0 c1 c2 c3 c4 c5 c6 c7 c8 c9 cfz
  go_wp2_with (go_at_call 20; refine (feeds20 _).mono ?_; rintro e w4 ⟨rfl, hb4⟩)
  go_ret
  exact ⟨rfl, below_old l3 hb4 (by simp)⟩

theorem bytes_append (a b : ByteArray) : (a ++ b).data.toList = a.data.toList ++ b.data.toList := by simp

theorem mk_append (x y : List UInt8) : (ByteArray.mk x.toArray ++ ByteArray.mk y.toArray) = ByteArray.mk (x ++ y).toArray := ByteArray.mk_append_mk x y

/-- What Feed answers, as texts: of one part, of the other, of both. -/
theorem parts_feed (t : Tel) (a b : ByteArray) (hf : Fine t) (hab : a.size + b.size ≤ 1048576) :
    ∃ (T1 T2 : Tel) (S1 U1 S2 U2 : ByteArray), Fine T1 ∧ Fine T2 ∧ S1.size + S2.size ≤ 1048576 ∧ U1.size + U2.size ≤ 3145728 ∧
      (∀ w, Calls Try.prog 9 #[t.val, .string a] w fun e w' => e = .returned (.tuple #[T1.val, .string S1, .string U1, .int .i64 0]) ∧ Below w.heap.size w w') ∧
      (∀ w, Calls Try.prog 9 #[T1.val, .string b] w fun e w' => e = .returned (.tuple #[T2.val, .string S2, .string U2, .int .i64 0]) ∧ Below w.heap.size w w') ∧
      (∀ w, Calls Try.prog 9 #[t.val, .string (a ++ b)] w fun e w' => e = .returned (.tuple #[T2.val, .string (S1 ++ S2), .string (U1 ++ U2), .int .i64 0]) ∧ Below w.heap.size w w') := by
  have f1 := fine_feed hf a.data.toList
  have f2 := fine_feed f1 b.data.toList
  have n1 := feed_len t a.data.toList
  have n2 := feed_len (feedL t a.data.toList).1 b.data.toList
  have ea : a.data.toList.length = a.size := by simp
  have eb : b.data.toList.length = b.size := by simp
  refine ⟨_, _, _, _, _, _, f1, f2, ?_, ?_, fun w => feed_good t a w hf (by omega), fun w => feed_good _ b w f1 (by omega), fun w => ?_⟩
  · rw [size_mk, size_mk]; omega
  · rw [size_mk, size_mk]; omega
  · have h := feed_good t (a ++ b) w hf (by rw [ByteArray.size_append]; omega)
    rw [bytes_append, feedL_append] at h
    rw [mk_append, mk_append]
    exact h

set_option maxRecDepth 100000 in
set_option maxHeartbeats 2000000 in
theorem parts_good (t : Tel) (a b : ByteArray) (w : World) (hf : Fine t) (hab : a.size + b.size ≤ 1048576) :
    Calls Try.prog 6 #[t.val, .string a, .string b] w fun e w' => e = .returned (.bool true) ∧ Below w.heap.size w w' := by
  obtain ⟨T1, T2, S1, U1, S2, U2, f1, f2, hS, hU, C1, C2, C3⟩ := parts_feed t a b hf hab
  have hcc : ¬ 9223372036854775807 < a.size + b.size := by omega
  have hcs : ¬ 9223372036854775807 < S1.size + S2.size := by omega
  have hcu : ¬ 9223372036854775807 < U1.size + U2.size := by omega
  have hsub2 : T2.sub.size ≤ maxLen := by have := f2.sub16; unfold maxLen; omega
  have hg2 : good T2 = true := (fine_iff T2).2 f2
  have hq : ∀ w, (binOp .eql 25 T2.val T2.val).run Try.prog w = .ok (.bool true) w := fun w => by
    show (binOp .eql 25 (.agg T2.cells) (.agg T2.cells)).run Try.prog w = _
    rw [run_eql_struct]
    show ((Op.equalIn 10000 25 T2.val T2.val).run Try.prog w).andThen _ = _
    rw [eq25]; rfl
  have hq2 := eq25 T2
  have hgt : Try.prog.eqGuardType Try.prog.depth 25 = false := by kernel_rfl
  replace C1 := hide C1
  replace C2 := hide C2
  replace C3 := hide C3
  clear f1 f2 hf hS hU hab
  unfold Tel.val Tel.cells at C1 C2 C3 hq hq2 ⊢
  go_enter Try.func6, Try.ntmps6
  go_wp2_with fail
  refine (C1.out _).mono ?_
  rintro e w1 ⟨rfl, hb1⟩
  have k1 : Cod w1 w.heap.size t := cod_new hb1 (by simp)
  have l1 : Below w.heap.size w w1 := below_old (Below.refl _ _) hb1 (by simp)
  have z1 := k1.lt
  clear hb1
  obtain ⟨c0, c1, c2, c3, c4, c5, c6, c7, c8, c9, cfz⟩ := k1.all
  go_wp2_with fail
  refine (C2.out _).mono ?_
  rintro e w2 ⟨rfl, hb2⟩
  have k2 : Cod w2 w.heap.size t := cod_old k1 hb2 (by simp)
  have l2 : Below w.heap.size w w2 := below_old l1 hb2 (by simp)
  clear hb2 k1 l1 c0 c1 c2 c3 c4 c5 c6 c7 c8 c9 cfz
  obtain ⟨c0, c1, c2, c3, c4, c5, c6, c7, c8, c9, cfz⟩ := k2.all
  have z2 := k2.lt
  go_wp2_with fail
  refine (C3.out _).mono ?_
  rintro e w3 ⟨rfl, hb3⟩
  have l3 : Below w.heap.size w w3 := below_old l2 hb3 (by simp)
  have k3 : Cod w3 w2.heap.size T2 := cod_new hb3 (by simp)
  have z3 := k3.lt
  clear hb3 k2 l2 c0 c1 c2 c3 c4 c5 c6 c7 c8 c9 cfz
  obtain ⟨c0, c1, c2, c3, c4, c5, c6, c7, c8, c9, cfz⟩ := k3.all
  go_wp2_with fail
  refine (feeds20 _).mono ?_
  rintro e w4 ⟨rfl, hb4⟩
  have l4 : Below w.heap.size w w4 := below_old l3 hb4 (by simp)
  have k4 : Cod w4 w2.heap.size T2 := cod_old k3 hb4 (by simp)
  have m4 : Cod w4 w3.heap.size T2 := cod_new hb4 (by simp)
  have z4 := k4.lt
  have y4 := m4.lt
  clear hb4 k3 l3 c0 c1 c2 c3 c4 c5 c6 c7 c8 c9 cfz
  obtain ⟨c0, c1, c2, c3, c4, c5, c6, c7, c8, c9, cfz⟩ := k4.all
  obtain ⟨d0, d1, d2, d3, d4, d5, d6, d7, d8, d9, dfz⟩ := m4.all
  go_wp2_with (go_at_call 11; refine (good_any T2 _ hsub2).mono ?_; rintro e w5 ⟨rfl, hb5⟩)
  go_ret
  exact ⟨rfl, l4.trans (hb5.mono l4.size)⟩

end Go.Proofs.Ytbjcmnemcgadjaa
