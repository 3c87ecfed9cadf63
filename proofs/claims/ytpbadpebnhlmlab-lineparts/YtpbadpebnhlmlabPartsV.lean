/-
  The walk of the law LineParts, for texts of any size that may come in.
-/
import Derived.Test.YtpbadpebnhlmlabPartsW
namespace Go.Proofs.Ytpbadpebnhlmlab
open Go.RowKit
set_option linter.unusedVariables false

set_option maxRecDepth 100000 in
set_option maxHeartbeats 2000000 in
theorem parts_badV (L : Lin) (v : Value) (a b : ByteArray) (w : World) (hv : Reads w v L.q) (hs : Small L) (hq : L.q.length ≤ 8796093022208) (hab : a.size + b.size ≤ 281474976710656) (hg : good L = false) :
    Calls Try.prog 4 #[.agg (L.cells v), .string a, .string b] w fun e w' => e = .returned (.bool true) ∧ Below w.heap.size w w' := by
  have C1 := hide (fun (v : Value) (s : ByteArray) (w : World) h => feed_bad L v s w h hs hq hg)
  have hcc : ¬ 9223372036854775807 < a.size + b.size := by omega
  have hv0 := hide hv
  obtain ⟨av, cap, rfl⟩ := hv.shape
  clear hv hs hq hg
  unfold Lin.cells at C1 ⊢
  go_enter Try.func4, Try.ntmps4
  go_wp2_with fail
  refine (C1.out _ a _ (hv0.out.alloc _)).mono ?_
  rintro e w1 ⟨v1, rfl, hr1, hb1⟩
  have k1 : Cod w1 w.heap.size L _ := cod_new hb1 (by simp)
  have l1 : Below w.heap.size w w1 := below_old (Below.refl _ _) hb1 (by simp)
  have z1 := k1.lt
  have hv1 := hide (hv0.out.old hb1 (by simp))
  obtain ⟨av1, cap1, rfl⟩ := hr1.shape
  replace hr1 := hide hr1
  clear hb1 hv0
  obtain ⟨c0, c1, c2, c3, cfz⟩ := k1.all
  go_wp2_with fail
  refine (C1.out _ b _ (hr1.out.alloc _)).mono ?_
  rintro e w2 ⟨v2, rfl, hr2, hb2⟩
  have k2 : Cod w2 w.heap.size L _ := cod_old k1 hb2 (by simp)
  have l2 : Below w.heap.size w w2 := below_old l1 hb2 (by simp)
  have hv2 := hide (hv1.out.old hb2 (by simp))
  obtain ⟨av2, cap2, rfl⟩ := hr2.shape
  clear hb2 k1 l1 c0 c1 c2 c3 cfz hv1 hr1 hr2
  obtain ⟨c0, c1, c2, c3, cfz⟩ := k2.all
  have z2 := k2.lt
  go_wp2_with fail
  refine (C1.out _ (a ++ b) _ (hv2.out.alloc _)).mono ?_
  rintro e w3 ⟨v3, rfl, hr3, hb3⟩
  have l3 : Below w.heap.size w w3 := below_old l2 hb3 (by simp)
  obtain ⟨av3, cap3, rfl⟩ := hr3.shape
  clear hb3 k2 l2 c0 c1 c2 c3 cfz hv2 hr3
  go_wp2_with (go_at_call 16; refine (reads16 _).mono ?_; rintro e w4 ⟨rfl, hb4⟩)
  go_ret
  exact ⟨rfl, below_old l3 hb4 (by simp)⟩

set_option maxRecDepth 100000 in
set_option maxHeartbeats 2000000 in
theorem parts_goodV (L : Lin) (v : Value) (a b : ByteArray) (w : World) (hv : Reads w v L.q) (hf : Fine L) (hab : a.size + b.size ≤ 281474976710656) :
    Calls Try.prog 4 #[.agg (L.cells v), .string a, .string b] w fun e w' => e = .returned (.bool true) ∧ Below w.heap.size w w' := by
  obtain ⟨M, n, e1⟩ : ∃ M n, feedL L a.data.toList = (M, n) := ⟨_, _, rfl⟩
  obtain ⟨N, m, e2⟩ : ∃ N m, feedL M b.data.toList = (N, m) := ⟨_, _, rfl⟩
  have hM : Fine M := by have := fine_feed hf a.data.toList; rwa [e1] at this
  have hN : Fine N := by have := fine_feed hM b.data.toList; rwa [e2] at this
  have e3 : feedL L (a ++ b).data.toList = (N, n + m) := by
    rw [show (a ++ b).data.toList = a.data.toList ++ b.data.toList by simp, feedL_append, e1]; simp only [e2]
  have n1 : n ≤ 281474976710656 := by have := feed_le L a.data.toList; rw [e1] at this; simp only [Array.length_toList] at this; have e : a.data.size = a.size := rfl; omega
  have n2 : m ≤ 281474976710656 := by have := feed_le M b.data.toList; rw [e2] at this; simp only [Array.length_toList] at this; have e : b.data.size = b.size := rfl; omega
  have C1 := hide (fun (v : Value) (w : World) h => feed_good L v a w h hf (by unfold maxLen; omega))
  have C2 := hide (fun (v : Value) (w : World) h => feed_good M v b w h hM (by unfold maxLen; omega))
  have C3 := hide (fun (v : Value) (w : World) h => feed_good L v (a ++ b) w h hf (by rw [ByteArray.size_append]; unfold maxLen; omega))
  rw [e1] at C1; rw [e2] at C2; rw [e3] at C3
  have C4 := hide (fun (v u : Value) (w : World) h1 h2 => same17 N v u w h1 h2)
  have C5 := hide (fun (v : Value) (w : World) h => good_any N v w h (small_of hN))
  rw [(fine_iff N).2 hN] at C5
  have hcc : ¬ 9223372036854775807 < a.size + b.size := by omega
  have hwr : wrap64 ((n : Int) + (m : Int)) = ((n + m : Nat) : Int) := by unfold wrap64; omega
  have hv0 := hide hv
  obtain ⟨av, cap, rfl⟩ := hv.shape
  clear hv hf hM hN e1 e2 e3 hab
  unfold Lin.cells at C1 C2 C3 C4 C5 ⊢
  simp only at C1 C2 C3
  go_enter Try.func4, Try.ntmps4
  go_wp2_with fail
  refine (C1.out _ _ (hv0.out.alloc _)).mono ?_
  rintro e w1 ⟨v1, rfl, hr1, hb1⟩
  have k1 : Cod w1 w.heap.size L _ := cod_new hb1 (by simp)
  have l1 : Below w.heap.size w w1 := below_old (Below.refl _ _) hb1 (by simp)
  have z1 := k1.lt
  have hv1 := hide (hv0.out.old hb1 (by simp))
  obtain ⟨av1, cap1, rfl⟩ := hr1.shape
  replace hr1 := hide hr1
  clear hb1 hv0
  obtain ⟨c0, c1, c2, c3, cfz⟩ := k1.all
  go_wp2_with fail
  refine (C2.out _ _ (hr1.out.alloc _)).mono ?_
  rintro e w2 ⟨v2, rfl, hr2, hb2⟩
  have k2 : Cod w2 w.heap.size L _ := cod_old k1 hb2 (by simp)
  have l2 : Below w.heap.size w w2 := below_old l1 hb2 (by simp)
  have hv2 := hide (hv1.out.old hb2 (by simp))
  obtain ⟨av2, cap2, rfl⟩ := hr2.shape
  replace hr2 := hide hr2
  clear hb2 k1 l1 c0 c1 c2 c3 cfz hv1 hr1
  obtain ⟨c0, c1, c2, c3, cfz⟩ := k2.all
  have z2 := k2.lt
  go_wp2_with fail
  refine (C3.out _ _ (hv2.out.alloc _)).mono ?_
  rintro e w3 ⟨v3, rfl, hr3, hb3⟩
  have l3 : Below w.heap.size w w3 := below_old l2 hb3 (by simp)
  have k3 : Cod w3 w2.heap.size N _ := cod_new hb3 (by simp)
  have hx3 := hide (hr2.out.old hb3 (by simp))
  obtain ⟨av3, cap3, rfl⟩ := hr3.shape
  replace hr3 := hide hr3
  have z3 := k3.lt
  clear hb3 k2 l2 c0 c1 c2 c3 cfz hv2 hr2
  obtain ⟨c0, c1, c2, c3, cfz⟩ := k3.all
  go_wp2_with fail
  refine (reads16 _).mono ?_
  rintro e w4 ⟨rfl, hb4⟩
  have l4 : Below w.heap.size w w4 := below_old l3 hb4 (by simp)
  have k4 : Cod w4 w2.heap.size N _ := cod_old k3 hb4 (by simp)
  have m4 : Cod w4 w3.heap.size N _ := cod_new hb4 (by simp)
  have hx4 := hide (hx3.out.old hb4 (by simp))
  have hy4 := hide (hr3.out.old hb4 (by simp))
  have z4 := k4.lt
  have y4 := m4.lt
  clear hb4 k3 l3 c0 c1 c2 c3 cfz hx3 hr3
  obtain ⟨c0, c1, c2, c3, cfz⟩ := k4.all
  obtain ⟨d0, d1, d2, d3, dfz⟩ := m4.all
  go_wp2_with fail
  refine (C4.out _ _ _ hx4.out hy4.out).mono ?_
  rintro e w5 ⟨rfl, hb5⟩
  have l5 : Below w.heap.size w w5 := l4.trans (hb5.mono l4.size)
  have hy5 := hide (hy4.out.below hb5 (Nat.le_refl _))
  have m5 : Cod w5 w3.heap.size N (.slice av3 N.q.length cap3) := by unfold Cod; rw [hb5.block _ y4]; exact m4
  have y5 := m5.lt
  clear hb5 c0 c1 c2 c3 cfz d0 d1 d2 d3 dfz hx4 hy4 k4 m4
  obtain ⟨d0, d1, d2, d3, dfz⟩ := m5.all
  go_wp2_with fail
  refine (C5.out _ _ hy5.out).mono ?_
  rintro e w6 ⟨rfl, hb6⟩
  go_wp2
  go_ret
  exact ⟨rfl, l5.trans (hb6.mono l5.size)⟩
end Go.Proofs.Ytpbadpebnhlmlab
