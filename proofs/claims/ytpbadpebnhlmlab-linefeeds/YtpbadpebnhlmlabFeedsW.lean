/-
  The walk of the law LineFeeds.
-/
import Derived.Test.YtpbadpebnhlmlabFeedsS
import Derived.Deep.DeepCutAuto
import Derived.Deep.RegionHeld3
namespace Go.Proofs.Ytpbadpebnhlmlab
open Go.RowKit
set_option linter.unusedVariables false

theorem off_old {w0 : World} {v : Value} {q : List ByteArray} {B : Nat} (h : Reads w0 v q) (hB : w0.heap.size ≤ B) : Off v q B := fun h0 b off n c e => by
  have := h.lt h0 b off n c e; omega

set_option maxRecDepth 100000 in
set_option maxHeartbeats 4000000 in
theorem feeds_walk (L N : Lin) (n e : Int) (v : Value) (s : ByteArray) (w : World) (hv : Reads w v L.q) (hs : Small L) (hq : L.q.length ≤ 8796093022208)
    (C1 : ∀ v w, Reads w v L.q → Calls Try.prog 8 #[.agg (L.cells v), .string s] w fun e' w' => ∃ v', e' = .returned (.tuple #[.agg (N.cells v'), .int .i64 n, .int .i64 e]) ∧ Reads w' v' N.q ∧ Below w.heap.size w w')
    (C2 : ∀ v w, Reads w v L.q → Calls Try.prog 9 #[.agg (L.cells v), .string s] w fun e' w' => ∃ v', e' = .returned (.tuple #[.agg (N.cells v'), .int .i64 n, .int .i64 e]) ∧ Reads w' v' N.q ∧ Below w.heap.size w w') :
    Calls Try.prog 3 #[.agg (L.cells v), .string s] w fun e w' => e = .returned (.bool true) ∧ Below w.heap.size w w' := by
  have C0 := hide (fun w' h => copy_any L v w' h hq)
  replace C1 := hide C1
  replace C2 := hide C2
  have D1 := hide (fun va vb w' h1 h2 => same10 N va vb w' h1 h2)
  have D2 := hide (fun va vb w' h1 h2 => same10 L va vb w' h1 h2)
  have D3 := hide (fun u w' h => good_any L u w' h hs)
  have D4 := hide (fun w' h => good12 L v w' h hs)
  have D5 := hide (fun u w' h => next13 L u w' h hq)
  have D6 := hide (fun w' h => next14 L v w' h hq)
  have D7 := hide (fun va vb w' h1 h2 => same10 (nx L) va vb w' h1 h2)
  have hv0 := hide hv
  obtain ⟨av, cap, rfl⟩ := hv.shape
  clear hv
  unfold Lin.cells at C0 C1 C2 D1 D2 D3 D4 D5 D6 D7 ⊢
  go_enter Try.func3, Try.ntmps3
  go_wp2_with fail
  refine (C0.out _ (hv0.out.alloc _)).mono ?_
  rintro e1 w1 ⟨v1, rfl, ho1, hb1⟩
  have hr1 := reads_own ho1
  obtain ⟨av1, cap1, rfl⟩ := own_shape ho1
  have k1 : Cod w1 w.heap.size L (.slice av L.q.length cap) := cod_new hb1 (by simp)
  have l1 : Below w.heap.size w w1 := below_old (Below.refl _ _) hb1 (by simp)
  have hv1 := hv0.out.old hb1 (by simp)
  have z1 := k1.lt
  have of1 := hide hr1
  obtain ⟨c0, c1, c2, c3, cfz⟩ := k1.all
  replace hr1 := hide hr1
  replace hv1 := hide hv1
  clear hb1 ho1
  go_wp2_with fail
  refine (C1.out _ _ (hr1.out.alloc _)).mono ?_
  rintro e2 w2 ⟨va, rfl, hr2, hb2⟩
  obtain ⟨ava, capa, rfl⟩ := hr2.shape
  have k2 : Cod w2 w.heap.size L (.slice av L.q.length cap) := cod_old k1 hb2 (by simp)
  have m2 : Cod w2 w1.heap.size L (.slice av1 L.q.length cap1) := cod_new hb2 (by simp)
  have l2 : Below w.heap.size w w2 := below_old l1 hb2 (by simp)
  have hv2 := hide (hv1.out.old hb2 (by simp))
  have hx2 := hide (hr1.out.old hb2 (by simp))
  have z2 := m2.lt
  have y2 := k2.lt
  replace hr2 := hide hr2
  clear hb2 k1 l1 c0 c1 c2 c3 cfz hr1 hv1
  obtain ⟨c0, c1, c2, c3, cfz⟩ := k2.all
  go_wp2_with fail
  refine (C2.out _ _ (hv2.out.alloc _)).mono ?_
  rintro e3 w3 ⟨vb, rfl, hr3, hb3⟩
  obtain ⟨avb, capb, rfl⟩ := hr3.shape
  have S3 : St True w w.heap.size w1.heap.size w2.heap.size w3.heap.size L N N (.slice av L.q.length cap) (.slice av1 L.q.length cap1) (.slice ava N.q.length capa) (.slice avb N.q.length capb) (w3.alloc (.cells (N.cells (.slice avb N.q.length capb)) 24)) := by
    have hB := (Below.refl w3.heap.size w3).alloc (Nat.le_refl _) (.cells (N.cells (.slice avb N.q.length capb)) 24)
    have q0 : Cod w3 w.heap.size L (.slice av L.q.length cap) := cod_old k2 hb3 (by simp)
    have q1 : Cod w3 w1.heap.size L (.slice av1 L.q.length cap1) := cod_old m2 hb3 (by simp)
    have q2 : Cod w3 w2.heap.size N (.slice ava N.q.length capa) := cod_new hb3 (by simp)
    have l3 : Below w.heap.size w w3 := below_old l2 hb3 (by simp)
    exact ⟨cod_behind q0 hB (Nat.le_refl _), cod_behind q1 hB (Nat.le_refl _), cod_behind q2 hB (Nat.le_refl _), heap_alloc_new w3 _, (hv2.out.old hb3 (by simp)).alloc _, (hx2.out.old hb3 (by simp)).alloc _, (hr2.out.old hb3 (by simp)).alloc _, fun _ => hr3.alloc _, l3.alloc l3.size _⟩
  have z3 : w2.heap.size < w3.heap.size := by have := hb3.size; simp at this; omega
  have z0 := l2.size
  clear hb3 k2 m2 l2 c0 c1 c2 c3 cfz hv2 hx2 hr2 hr3 C1 C2
  have S3d := S3.drew
  clear S3
  have CP : ∀ w', Reads w' (.slice av L.q.length cap) L.q → Calls Try.prog 7 #[.agg #[.string L.now, .bool L.long, .bool L.ret, .slice av L.q.length cap]] w' fun e w'' => ∃ v', e = .returned (.agg #[.string L.now, .bool L.long, .bool L.ret, v']) ∧ Reads w'' v' L.q ∧ Below w'.heap.size w' w'' := fun w' h => (C0.out w' h).mono (by rintro e w'' ⟨v', rfl, ho, hb⟩; exact ⟨v', rfl, reads_own ho, hb⟩)
  replace CP := hide CP
  go_wp2_with fail
  go_cut [59] (fun s wc => s = .bool false ∧ St True w w.heap.size w1.heap.size w2.heap.size w3.heap.size L N N (.slice av L.q.length cap) (.slice av1 L.q.length cap1) (.slice ava N.q.length capa) (.slice avb N.q.length capb) wc)
  case first =>
    go_region_held3 (fun w' => (w'.cell? ⟨w.heap.size, 0, none⟩ = some (.string L.now) ∧ w'.cell? ⟨w.heap.size, 1, none⟩ = some (.bool L.long) ∧ w'.cell? ⟨w.heap.size, 2, none⟩ = some (.bool L.ret) ∧ w'.cell? ⟨w.heap.size, 3, none⟩ = some (.slice av L.q.length cap) ∧ w'.cell? ⟨w1.heap.size, 0, none⟩ = some (.string L.now) ∧ w'.cell? ⟨w1.heap.size, 1, none⟩ = some (.bool L.long) ∧ w'.cell? ⟨w1.heap.size, 2, none⟩ = some (.bool L.ret) ∧ w'.cell? ⟨w1.heap.size, 3, none⟩ = some (.slice av1 L.q.length cap1) ∧ w'.cell? ⟨w2.heap.size, 0, none⟩ = some (.string N.now) ∧ w'.cell? ⟨w2.heap.size, 1, none⟩ = some (.bool N.long) ∧ w'.cell? ⟨w2.heap.size, 2, none⟩ = some (.bool N.ret) ∧ w'.cell? ⟨w2.heap.size, 3, none⟩ = some (.slice ava N.q.length capa) ∧ w'.cell? ⟨w3.heap.size, 0, none⟩ = some (.string N.now) ∧ w'.cell? ⟨w3.heap.size, 1, none⟩ = some (.bool N.long) ∧ w'.cell? ⟨w3.heap.size, 2, none⟩ = some (.bool N.ret) ∧ w'.cell? ⟨w3.heap.size, 3, none⟩ = some (.slice avb N.q.length capb)) ∧ St True w w.heap.size w1.heap.size w2.heap.size w3.heap.size L N N (.slice av L.q.length cap) (.slice av1 L.q.length cap1) (.slice ava N.q.length capa) (.slice avb N.q.length capb) w') ((exact St.s (by assumption)))
      (first | (go_at_call_of 10 N.now; refine (D1.out _ _ _ S3d.r2 (S3d.r3 trivial)).mono ?_; rintro e w4 ⟨rfl, hb4⟩; have hst4 : St True w w.heap.size w1.heap.size w2.heap.size w3.heap.size L N N (.slice av L.q.length cap) (.slice av1 L.q.length cap1) (.slice ava N.q.length capa) (.slice avb N.q.length capb) w4 := S3d.behind hb4 (Nat.le_refl _)) | (go_at_call_of 10 L.now; refine (D2.out _ _ _ hst4.r1 hst4.r0).mono ?_; rintro e w5 ⟨rfl, hb5⟩; have hst5 : St True w w.heap.size w1.heap.size w2.heap.size w3.heap.size L N N (.slice av L.q.length cap) (.slice av1 L.q.length cap1) (.slice ava N.q.length capa) (.slice avb N.q.length capb) w5 := hst4.behind hb5 (Nat.le_refl _)) | (go_at_call 7; refine (CP.out _ (by first | exact hst5.r0 | exact hst8.r0)).mono ?_; rintro e w6 ⟨v6, rfl, hr6, hb6⟩; have hst6 : St True w w.heap.size w1.heap.size w2.heap.size w3.heap.size L N N (.slice av L.q.length cap) (.slice av1 L.q.length cap1) (.slice ava N.q.length capa) (.slice avb N.q.length capb) w6 := (by first | exact hst5.behind hb6 (Nat.le_refl _) | exact hst8.behind hb6 (Nat.le_refl _))) | (go_at_call 11; refine (D3.out _ _ (by first | exact hr6 | exact hr6x)).mono ?_; rintro e w7 ⟨rfl, hb7⟩; have hst7 : St True w w.heap.size w1.heap.size w2.heap.size w3.heap.size L N N (.slice av L.q.length cap) (.slice av1 L.q.length cap1) (.slice ava N.q.length capa) (.slice avb N.q.length capb) w7 := (by first | exact hst6.behind hb7 (Nat.le_refl _) | exact hst8.behind hb7 (Nat.le_refl _))) | (go_at_call 12; refine (D4.out _ (by first | exact hst5.r0 | exact hst6.r0 | exact hst7.r0)).mono ?_; rintro e w8 ⟨rfl, hb8⟩; have hst8 : St True w w.heap.size w1.heap.size w2.heap.size w3.heap.size L N N (.slice av L.q.length cap) (.slice av1 L.q.length cap1) (.slice ava N.q.length capa) (.slice avb N.q.length capb) w8 := (by first | exact hst5.behind hb8 (Nat.le_refl _) | exact hst6.behind hb8 (Nat.le_refl _) | exact hst7.behind hb8 (Nat.le_refl _)); (try have hr6x := hr6.below hb8 (Nat.le_refl _))))
    all_goals go_wp2_with fail
    all_goals go_meet
    all_goals exact ⟨by simp, by assumption⟩
  case rest =>
    obtain ⟨rfl, S4⟩ := hcut
    have y0 := S4.k0.lt
    have y2' := S4.k2.lt
    have y3 := S4.k3.lt
    have n02 : ¬ w.heap.size = w2.heap.size := by omega
    have n12 : ¬ w1.heap.size = w2.heap.size := by omega
    have n32 : ¬ w3.heap.size = w2.heap.size := by omega
    have n03 : ¬ w.heap.size = w3.heap.size := by omega
    have n13 : ¬ w1.heap.size = w3.heap.size := by omega
    have n23 : ¬ w2.heap.size = w3.heap.size := by omega
    have ov2 := hide (off_old hv0.out (by omega) : Off (.slice av L.q.length cap) L.q w2.heap.size)
    have ov3 := hide (off_old hv0.out (by omega) : Off (.slice av L.q.length cap) L.q w3.heap.size)
    have o12 := hide (off_old of1.out (by omega) : Off (.slice av1 L.q.length cap1) L.q w2.heap.size)
    have o13 := hide (off_old of1.out (by omega) : Off (.slice av1 L.q.length cap1) L.q w3.heap.size)
    clear S3d
    obtain ⟨c0, c1, c2, c3, cfz⟩ := S4.k1.all
    replace S4 := hide S4
    go_wp2_with fail
    refine (D5.out _ _ S4.out.r1).mono ?_
    rintro e5 w5 ⟨va', rfl, hr5, hb5, ho5⟩
    have S5 := S4.out.behind hb5 (Nat.le_refl _)
    obtain ⟨ava', capa', rfl⟩ := hr5.shape
    have S6 := S5.third hr5 ov2.out o12.out (ho5 _ y2') n02 n12 n32 (by omega)
    have o53 := hide (ho5 _ y3)
    clear c0 c1 c2 c3 cfz hb5 ho5 hr5
    obtain ⟨c0, c1, c2, c3, cfz⟩ := S5.k0.all
    obtain ⟨d0, d1, d2, d3, dfz⟩ := S5.k2.all
    have t2 := S5.k2.lt
    have t0 := S5.k0.lt
    replace S6 := hide S6
    clear S5
    go_wp2_with fail
    refine (D6.out _ S6.out.r0).mono ?_
    rintro e6 w6 ⟨vb', rfl, hr6, hb6, ho6⟩
    have S7 := S6.out.behind hb6 (Nat.le_refl _)
    obtain ⟨avb', capb', rfl⟩ := hr6.shape
    have S8 := S7.fourth hr6 ov3.out o13.out o53.out (ho6 _ (S6.out.k3.lt)) n03 n13 n23 (by omega)
    clear c0 c1 c2 c3 cfz d0 d1 d2 d3 dfz hb6 ho6 hr6
    obtain ⟨c0, c1, c2, c3, cfz⟩ := S7.k2.all
    obtain ⟨d0, d1, d2, d3, dfz⟩ := S7.k3.all
    have u2 := S7.k2.lt
    have u3 := S7.k3.lt
    replace S8 := hide S8
    clear S7
    go_wp2_with fail
    refine (D7.out _ _ _ S8.out.r2 (S8.out.r3 trivial)).mono ?_
    rintro e7 w7 ⟨rfl, hb7⟩
    have S9 := S8.out.behind hb7 (Nat.le_refl _)
    clear c0 c1 c2 c3 cfz d0 d1 d2 d3 dfz hb7
    obtain ⟨c0, c1, c2, c3, cfz⟩ := S9.k0.all
    obtain ⟨d0, d1, d2, d3, dfz⟩ := S9.k1.all
    replace S9 := hide S9
    go_wp2_with fail
    refine (D2.out _ _ _ S9.out.r1 S9.out.r0).mono ?_
    rintro e8 w8 ⟨rfl, hb8⟩
    have SA := hide (S9.out.behind hb8 (Nat.le_refl _))
    clear c0 c1 c2 c3 cfz d0 d1 d2 d3 dfz hb8
    go_wp2_with fail
    refine (reads15 _).mono ?_
    rintro e9 w9 ⟨rfl, hb9⟩
    go_wp2
    go_ret
    exact ⟨rfl, SA.out.lo.trans (hb9.mono SA.out.lo.size)⟩
end Go.Proofs.Ytpbadpebnhlmlab
