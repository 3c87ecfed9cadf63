/-
  The walk of the law PagerFlows.
-/
import Derived.Test.YtbjcmnemcgadjabPgRef4
namespace Go.Proofs.Ytbjcmnemcgadjab
open Go.RowKit
set_option linter.unusedVariables false

set_option maxRecDepth 100000 in
set_option maxHeartbeats 2000000 in
theorem flows_walk (P : Pg) (h : Int) (v : Value) (w : World) (hv : Reads w v P.wait) (hs : Small P) (hall : goodP P = true → ∀ s ∈ P.wait, s.size ≤ 1048576) :
    Calls Try.prog 8 #[.agg (P.cells v), .int .i64 h] w fun e w' => e = .returned (.bool true) ∧ Below w.heap.size w w' := by
  have C0 := hide (fun u w' hr => copypage_all P u w' hr hs)
  have C1 := hide (fun u w' hr => flow_any P h u w' hr hs hall)
  have C2 := hide (fun u w' hr => flowpage_any P h u w' hr hs hall)
  generalize flowR P h = R at C1 C2
  generalize flowE P h = E at C1 C2
  have C3 := hide (fun va vb w' h1 h2 => samepage_any R va vb w' h1 h2)
  have C4 := hide (fun va vb w' h1 h2 => samepage_any P va vb w' h1 h2)
  have CW := hide shows_any
  have hv0 := hide hv
  obtain ⟨av, cap, rfl⟩ := hv.shape
  clear hv hs hall
  unfold Pg.cells at C0 C1 C2 C3 C4 ⊢
  go_enter Try.func8, Try.ntmps8
  go_wp2_with fail
  refine (C0.out _ _ (hv0.out.alloc _)).mono ?_
  rintro e w1 ⟨v1, rfl, ho1, hb1⟩
  have hr1 := reads_own ho1
  obtain ⟨a1, cap1, rfl⟩ := own_shape ho1
  have k1 : Cod w1 w.heap.size P (.slice av P.wait.length cap) := cod_new hb1 (by simp)
  have l1 : Below w.heap.size w w1 := below_old (Below.refl _ _) hb1 (by simp)
  have hv1 := hide (hv0.out.old hb1 (by simp))
  replace hr1 := hide hr1
  clear hb1 ho1 C0
  go_wp2_with fail
  refine (C1.out _ _ (hr1.out.alloc _)).mono ?_
  rintro e w2 ⟨v2, rfl, hr2, _, hb2⟩
  obtain ⟨a2, cap2, rfl⟩ := hr2.shape
  have k2 : Cod w2 w.heap.size P (.slice av P.wait.length cap) := cod_old k1 hb2 (by simp)
  have m2 : Cod w2 w1.heap.size P (.slice a1 P.wait.length cap1) := cod_new hb2 (by simp)
  have l2 : Below w.heap.size w w2 := below_old l1 hb2 (by simp)
  have hv2 := hide (hv1.out.old hb2 (by simp))
  have hx2 := hide (hr1.out.old hb2 (by simp))
  obtain ⟨c0, c1, c2, c3, c4, cfz⟩ := k2.all
  have z2 := k2.lt
  replace hr2 := hide hr2
  clear hb2 k1 l1 hv1 hr1 C1
  go_wp2_with fail
  refine (C2.out _ _ (hv2.out.alloc _)).mono ?_
  rintro e w3 ⟨v3, rfl, hr3, hb3⟩
  obtain ⟨a3, cap3, rfl⟩ := hr3.shape
  have k3 : Cod w3 w.heap.size P (.slice av P.wait.length cap) := cod_old k2 hb3 (by simp)
  have m3 : Cod w3 w1.heap.size P (.slice a1 P.wait.length cap1) := cod_old m2 hb3 (by simp)
  have q3 : Cod w3 w2.heap.size R (.slice a2 R.wait.length cap2) := cod_new hb3 (by simp)
  have l3 : Below w.heap.size w w3 := below_old l2 hb3 (by simp)
  have hv3 := hide (hv2.out.old hb3 (by simp))
  have hx3 := hide (hx2.out.old hb3 (by simp))
  have hy3 := hide (hr2.out.old hb3 (by simp))
  clear hb3 k2 m2 l2 hv2 hx2 hr2 C2 c0 c1 c2 c3 c4 cfz
  obtain ⟨c0, c1, c2, c3, c4, cfz⟩ := q3.all
  have z3 := q3.lt
  replace hr3 := hide hr3
  go_wp2_with fail
  refine (C3.out _ _ _ (hy3.out.alloc _) (hr3.out.alloc _)).mono ?_
  rintro e w4 ⟨rfl, hb4⟩
  have k4 : Cod w4 w.heap.size P (.slice av P.wait.length cap) := cod_old k3 hb4 (by simp)
  have m4 : Cod w4 w1.heap.size P (.slice a1 P.wait.length cap1) := cod_old m3 hb4 (by simp)
  have l4 : Below w.heap.size w w4 := below_old l3 hb4 (by simp)
  have hv4 := hide (hv3.out.old hb4 (by simp))
  have hx4 := hide (hx3.out.old hb4 (by simp))
  clear hb4 k3 m3 q3 l3 hv3 hx3 hy3 hr3 C3 c0 c1 c2 c3 c4 cfz
  obtain ⟨c0, c1, c2, c3, c4, cfz⟩ := k4.all
  obtain ⟨d0, d1, d2, d3, d4, dfz⟩ := m4.all
  have z4 := k4.lt
  have y4 := m4.lt
  replace l4 := hide l4
  clear k4 m4
  go_wp2_with fail
  refine (C4.out _ _ _ hx4.out hv4.out).mono ?_
  rintro e w5 ⟨rfl, hb5⟩
  have l5 := hide (l4.out.trans (hb5.mono l4.out.size))
  clear hb5 c0 c1 c2 c3 c4 cfz d0 d1 d2 d3 d4 dfz hx4 hv4 l4
  go_wp2_with fail
  refine (CW.out _).mono ?_
  rintro e w6 ⟨rfl, hb6⟩
  have l6 := hide (l5.out.trans (hb6.mono l5.out.size))
  clear hb6
  go_wp2
  go_ret
  exact ⟨rfl, l6.out⟩
end Go.Proofs.Ytbjcmnemcgadjab
