/-
  The walk of the law PagerTakes.
-/
import Derived.Test.YtponfhjplpfjkacPgShows
namespace Go.Proofs.Ytponfhjplpfjkac
open Go.RowKit
set_option linter.unusedVariables false

theorem ext0 (s : ByteArray) (i j k : Nat) (h1 : i ≤ j) (h2 : j ≤ k) : s.extract i j ++ s.extract j k = s.extract i k := by
  rw [ByteArray.extract_append_extract]
  congr 1 <;> omega

theorem ext_ext (s : ByteArray) (i j a b : Nat) : (s.extract i j).extract a b = s.extract (i + a) (min (i + b) j) := by
  rw [ByteArray.extract_extract]

/-- What the law compares. -/
theorem takes_math (P : Pg) (a b : Nat) :
    P.ring.extract 0 (kOf P a) ++ (takeP P a).ring.extract 0 (kOf (takeP P a) b) = P.ring.extract 0 (kOf P (a + b)) ∧
    (takeP (takeP P a) b).ring = (takeP P (a + b)).ring ∧ (P.ring.extract 0 (kOf P a)).size ≤ a ∧ P.ring.extract 0 (kOf P (a + b)) ++ (takeP P (a + b)).ring = P.ring := by
  have hk : kOf P a = min a P.ring.size := by unfold kOf; omega
  have hr : (takeP P a).ring = P.ring.extract (min a P.ring.size) P.ring.size := by simp [takeP, hk]
  have hrs : (takeP P a).ring.size = P.ring.size - min a P.ring.size := by rw [hr, ByteArray.size_extract]; omega
  have hk2 : kOf (takeP P a) b = min b (P.ring.size - min a P.ring.size) := by unfold kOf; rw [hrs]; omega
  have hk3 : kOf P (a + b) = min (a + b) P.ring.size := by unfold kOf; omega
  refine ⟨?_, ?_, ?_, ?_⟩
  · rw [hk2, hk3, hr, hk, ext_ext, show min a P.ring.size + 0 = min a P.ring.size by omega, ext0 _ _ _ _ (by omega) (by omega)]
    congr 1; omega
  · show (takeP P a).ring.extract (kOf (takeP P a) b) (takeP P a).ring.size = P.ring.extract (kOf P (a + b)) P.ring.size
    rw [hk2, hk3, hrs, hr, ext_ext]
    congr 1 <;> omega
  · rw [hk, ByteArray.size_extract]; omega
  · show P.ring.extract 0 (kOf P (a + b)) ++ P.ring.extract (kOf P (a + b)) P.ring.size = P.ring
    rw [hk3, ext0 _ _ _ _ (by omega) (by omega), ByteArray.extract_zero_size]

theorem small_take {P : Pg} (h : Small P) (n : Int) : Small (takeP P n) :=
  ⟨by have := h.ring; show (P.ring.extract (kOf P n) P.ring.size).size ≤ _; rw [ByteArray.size_extract]; omega, h.lo, h.hi, h.len⟩

def CT (P Q : Pg) (n : Int) (s : ByteArray) : Prop := ∀ (u : Value) (w : World), Reads w u P.wait → Calls Try.prog 11 #[.agg (P.cells u), .int .i64 n] w fun e w' => ∃ v', e = .returned (.tuple #[.agg (Q.cells v'), .string s]) ∧ Reads w' v' Q.wait ∧ Below w.heap.size w w'

theorem ct_take {P : Pg} (h : Small P) (n : Int) : CT P (takeP P n) n (P.ring.extract 0 (kOf P n)) := fun u w hu =>
  (take_any P n u w hu h).mono fun e w' ⟨v', h1, h2, _, h3⟩ => ⟨v', h1, h2, h3⟩

theorem takes_pack (P : Pg) (hs : Small P) (a b : Nat) : ∃ (P1 P2 P3 : Pg) (s t : ByteArray), CT P P1 a s ∧ CT P1 P2 b t ∧ CT P P3 (a + b : Int) (s ++ t) ∧ P3.ring = P2.ring ∧ s.size ≤ a ∧ s ++ t ++ P2.ring = P.ring ∧ s.size + t.size ≤ 140737488355328 ∧ P2.ring.size + (s.size + t.size) ≤ 140737488355328 := by
  obtain ⟨h1, h2, h3, h4⟩ := takes_math P a b
  have h5 : (P.ring.extract 0 (kOf P a) ++ (takeP P a).ring.extract 0 (kOf (takeP P a) b) ++ (takeP (takeP P a) b).ring).size = P.ring.size := by rw [h1, h2, h4]
  have h6 := hs.ring
  rw [ByteArray.size_append, ByteArray.size_append] at h5
  refine ⟨takeP P a, takeP (takeP P a) b, takeP P (a + b), _, _, ct_take hs a, ct_take (small_take hs a) b, ?_, h2.symm, h3, by rw [h1, h2, h4], by omega, by omega⟩
  rw [h1]
  exact ct_take hs _

set_option maxRecDepth 100000 in
set_option maxHeartbeats 1000000 in
theorem takes_walk (P : Pg) (m n : Int) (v : Value) (w : World) (hv : Reads w v P.wait) (hs : Small P) (hm : -9223372036854775808 ≤ m) (hm' : m ≤ 9223372036854775807) (hn : -9223372036854775808 ≤ n) (hn' : n ≤ 9223372036854775807) :
    Calls Try.prog 4 #[.agg (P.cells v), .int .i64 m, .int .i64 n] w fun e w' => e = .returned (.bool true) ∧ Below w.heap.size w w' := by
  have CP1 := hide (fun w => pick_any m 1000 w hm hm' (by decide) (by decide))
  have CP2 := hide (fun w => pick_any n 1000 w hn hn' (by decide) (by decide))
  have CW := hide shows_any
  have hv0 := hide hv
  have HS := hide hs
  obtain ⟨av, cap, rfl⟩ := hv.shape
  clear hv hs hm hm' hn hn'
  unfold Pg.cells
  go_enter Try.func4, Try.ntmps4
  go_wp2_with fail
  refine (CP1.out _).mono ?_
  rintro e w1 ⟨⟨a, ha, rfl⟩, hw⟩
  rw [hw]
  clear hw w1
  go_wp2_with fail
  refine (CP2.out _).mono ?_
  rintro e w1 ⟨⟨b, hb, rfl⟩, hw⟩
  rw [hw]
  clear hw w1 CP1 CP2
  obtain ⟨P1, P2, P3, s, t, C1, C2, C3, E1, E2, E3, E4, E5⟩ := takes_pack P HS.out a b
  unfold CT Pg.cells at C1 C2 C3
  replace C1 := hide C1
  replace C2 := hide C2
  replace C3 := hide C3
  replace E1 := hide E1
  replace E3 := hide E3
  go_wp2_with fail
  refine (C1.out _ _ (hv0.out.alloc _)).mono ?_
  rintro e w1 ⟨v1, rfl, hr1, hb1⟩
  have k1 : Cod w1 w.heap.size P (.slice av P.wait.length cap) := cod_new hb1 (by simp)
  have l1 : Below w.heap.size w w1 := below_old (Below.refl _ _) hb1 (by simp)
  have hv1 := hide (hv0.out.old hb1 (by simp))
  obtain ⟨av1, cap1, rfl⟩ := hr1.shape
  replace hr1 := hide hr1
  clear hb1 C1
  go_wp2_with fail
  refine (C2.out _ _ (hr1.out.alloc _)).mono ?_
  rintro e w2 ⟨v2, rfl, hr2, hb2⟩
  obtain ⟨av2, cap2, rfl⟩ := hr2.shape
  have k2 : Cod w2 w.heap.size P (.slice av P.wait.length cap) := cod_old k1 hb2 (by simp)
  have l2 : Below w.heap.size w w2 := below_old l1 hb2 (by simp)
  have hv2 := hide (hv1.out.old hb2 (by simp))
  obtain ⟨c0, c1, c2, c3, c4, cfz⟩ := k2.all
  have z2 := k2.lt
  clear hb2 k1 l1 hv1 hr1 C2 hr2
  go_wp2_with fail
  refine (C3.out _ _ (hv2.out.alloc _)).mono ?_
  rintro e w3 ⟨v3, rfl, hr3, hb3⟩
  obtain ⟨av3, cap3, rfl⟩ := hr3.shape
  have k3 : Cod w3 w.heap.size P (.slice av P.wait.length cap) := cod_old k2 hb3 (by simp)
  have q3 : Cod w3 w2.heap.size P2 (.slice av2 P2.wait.length cap2) := cod_new hb3 (by simp)
  have l3 : Below w.heap.size w w3 := below_old l2 hb3 (by simp)
  clear hb3 k2 l2 hv2 C3 hr3 c0 c1 c2 c3 c4 cfz
  obtain ⟨c0, c1, c2, c3, c4, cfz⟩ := k3.all
  obtain ⟨d0, d1, d2, d3, d4, dfz⟩ := q3.all
  have z3 := k3.lt
  have y3 := q3.lt
  rw [E1.out]
  have E3' : (s ++ t ++ P2.ring).toList = P.ring.toList := by rw [E3.out]
  replace l3 := hide l3
  clear k3 q3
  go_wp2_with fail
  refine (CW.out _).mono ?_
  rintro e w4 ⟨rfl, hb4⟩
  have l4 := hide (below_old l3.out hb4 (by simp))
  clear hb4
  go_wp2
  go_ret
  exact ⟨rfl, l4.out⟩
end Go.Proofs.Ytponfhjplpfjkac
