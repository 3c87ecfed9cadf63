/-
  The walk of the law PagerTells.
-/
import Derived.Test.YtbjcmnemcgadjabPgTellsS
namespace Go.Proofs.Ytbjcmnemcgadjab
open Go.RowKit
set_option linter.unusedVariables false

theorem sendR_wait (P : Pg) (s : ByteArray) : (sendR P s).wait = P.wait := by unfold sendR; split; exact (by unfold sentP; split <;> rfl); rfl

set_option maxRecDepth 100000 in
set_option maxHeartbeats 4000000 in
theorem tells_walk (P : Pg) (s : ByteArray) (n : Int) (v : Value) (w : World) (hv : Reads w v P.wait) (hs : Small P) (hz : s.size ≤ maxLen) :
    Calls Try.prog 7 #[.agg (P.cells v), .string s, .int .i64 n] w fun e w' => e = .returned (.bool true) ∧ Below w.heap.size w w' := by
  have C0 := hide (fun u w' hr => copypage_all P u w' hr hs)
  have C1 := hide (fun u w' hr => tell_any P s u w' hr hs)
  have C2 := hide (fun u w' hr => tellpage_any P s u w' hr hs)
  have C5 : Hid (∀ u w', Reads w' u P.wait → _) := hide (fun u w' hr => send_any P s u w' hr hs hz)
  have C6 := hide (fun u w' hr => sendpage_any P s u w' hr hs hz)
  have C7 := hide (fun u w' hr => take_any P n u w' hr hs)
  have C8 := hide (fun u w' hr => takepage_any P n u w' hr hs)
  have C9 := hide (fun u w' hr => turn_any P u w' hr hs)
  have HS : Hid ((sendR P s).wait = P.wait) := hide (sendR_wait P s)
  have HK : Hid ((takeP P n).wait = P.wait) := hide rfl
  have HU : Hid (turnP P = ⟨P.wait, 0, false, P.ring, P.cut⟩) := hide rfl
  generalize tellP P s = A at C1 C2
  generalize sendR P s = B at C5 C6 HS
  generalize takeP P n = K at C7 C8 HK
  generalize turnP P = U at C9 HU
  generalize refusal P = E at C1 C2 C5 C6
  generalize P.ring.extract 0 (kOf P n) = X at C7 C8
  have D1 := hide (fun va vb w' h1 h2 => samepage_any A va vb w' h1 h2)
  have D2 := hide (fun va vb w' h1 h2 => samepage_any P va vb w' h1 h2)
  have D3 := hide (fun u w' hr => good_any P u w' hr hs)
  have D4 := hide (fun u w' hr => goodpage_any P u w' hr hs)
  have D5 := hide (fun va vb w' h1 h2 => samepage_any B va vb w' h1 h2)
  have D6 := hide (fun va vb w' h1 h2 => samepage_any K va vb w' h1 h2)
  have D7 := hide (fun va vb w' h1 h2 => samepage_any U va vb w' h1 h2)
  generalize goodP P = G at D3 D4
  have CW := hide shows_any
  have hv0 := hide hv
  obtain ⟨av, cap, rfl⟩ := hv.shape
  clear hv hs
  unfold Pg.cells at C0 C1 C2 C5 C6 C7 C8 C9 D1 D2 D3 D4 D5 D6 D7 ⊢
  go_enter Try.func7, Try.ntmps7
  go_wp2_with fail
  refine (C0.out _ _ (hv0.out.alloc _)).mono ?_
  rintro e w1 ⟨v1, rfl, ho1, hb1⟩
  have hr1 := reads_own ho1
  obtain ⟨a1, cap1, rfl⟩ := own_shape ho1
  have k1 : Cod w1 w.heap.size P (.slice av P.wait.length cap) := cod_new hb1 (by simp)
  have l1 : Below w.heap.size w w1 := below_old (Below.refl _ _) hb1 (by simp)
  have z1 := k1.lt
  have hv1 := hide (hv0.out.old hb1 (by simp))
  have of1 := hide hr1
  replace hr1 := hide hr1
  clear hb1 ho1 C0
  go_wp2_with fail
  refine (C1.out _ _ (hr1.out.alloc _)).mono ?_
  rintro e w2 ⟨v2, rfl, hr2, _, hb2⟩
  obtain ⟨a2, cap2, rfl⟩ := hr2.shape
  have k2 : Cod w2 w.heap.size P (.slice av P.wait.length cap) := cod_old k1 hb2 (by simp)
  have m2 : Cod w2 w1.heap.size P (.slice a1 P.wait.length cap1) := cod_new hb2 (by simp)
  have l2 : Below w.heap.size w w2 := below_old l1 hb2 (by simp)
  have hv2 := hide (hv1.out.old hb2 (by simp))
  have hx2 := hide (hr1.out.old hb2 (by simp))
  obtain ⟨c0, c1, c2, c3, c4, cfz⟩ := k2.all
  have z2 := m2.lt
  have y2 := k2.lt
  replace hr2 := hide hr2
  clear hb2 k1 l1 hv1 hr1 C1
  go_wp2_with fail
  refine (C2.out _ _ (hv2.out.alloc _)).mono ?_
  rintro e w3 ⟨v3, rfl, hr3, hb3⟩
  obtain ⟨a3, cap3, rfl⟩ := hr3.shape
  have S3 : St True w w.heap.size w1.heap.size w2.heap.size w3.heap.size P A A (.slice av P.wait.length cap) (.slice a1 P.wait.length cap1) (.slice a2 A.wait.length cap2) (.slice a3 A.wait.length cap3) (w3.alloc (.cells (A.cells (.slice a3 A.wait.length cap3)) 43)) := by
    have hB := (Below.refl w3.heap.size w3).alloc (Nat.le_refl _) (.cells (A.cells (.slice a3 A.wait.length cap3)) 43)
    have q0 : Cod w3 w.heap.size P (.slice av P.wait.length cap) := cod_old k2 hb3 (by simp)
    have q1 : Cod w3 w1.heap.size P (.slice a1 P.wait.length cap1) := cod_old m2 hb3 (by simp)
    have q2 : Cod w3 w2.heap.size A (.slice a2 A.wait.length cap2) := cod_new hb3 (by simp)
    have l3 : Below w.heap.size w w3 := below_old l2 hb3 (by simp)
    exact ⟨cod_behind q0 hB (Nat.le_refl _), cod_behind q1 hB (Nat.le_refl _), cod_behind q2 hB (Nat.le_refl _), heap_alloc_new w3 _, (hv2.out.old hb3 (by simp)).alloc _, (hx2.out.old hb3 (by simp)).alloc _, (hr2.out.old hb3 (by simp)).alloc _, fun _ => hr3.alloc _, l3.alloc l3.size _⟩
  have z3 : w2.heap.size < w3.heap.size := by have := hb3.size; simp at this; omega
  have z0 := l2.size
  clear hb3 k2 m2 l2 c0 c1 c2 c3 c4 cfz hv2 hx2 hr2 hr3 C2
  have S3d := S3.drew
  clear S3
  go_wp2_with fail
  go_cut [50] (fun s wc => s = .bool false ∧ St True w w.heap.size w1.heap.size w2.heap.size w3.heap.size P A A (.slice av P.wait.length cap) (.slice a1 P.wait.length cap1) (.slice a2 A.wait.length cap2) (.slice a3 A.wait.length cap3) wc)
  case first =>
    go_region_held3 (fun w' => (w'.cell? ⟨w.heap.size, 0, none⟩ = some (.slice av P.wait.length cap) ∧ w'.cell? ⟨w.heap.size, 1, none⟩ = some (.int .i64 P.shown) ∧ w'.cell? ⟨w.heap.size, 2, none⟩ = some (.bool P.asking) ∧ w'.cell? ⟨w.heap.size, 3, none⟩ = some (.string P.ring) ∧ w'.cell? ⟨w.heap.size, 4, none⟩ = some (.bool P.cut) ∧ w'.cell? ⟨w1.heap.size, 0, none⟩ = some (.slice a1 P.wait.length cap1) ∧ w'.cell? ⟨w1.heap.size, 1, none⟩ = some (.int .i64 P.shown) ∧ w'.cell? ⟨w1.heap.size, 2, none⟩ = some (.bool P.asking) ∧ w'.cell? ⟨w1.heap.size, 3, none⟩ = some (.string P.ring) ∧ w'.cell? ⟨w1.heap.size, 4, none⟩ = some (.bool P.cut) ∧ w'.cell? ⟨w2.heap.size, 0, none⟩ = some (.slice a2 A.wait.length cap2) ∧ w'.cell? ⟨w2.heap.size, 1, none⟩ = some (.int .i64 A.shown) ∧ w'.cell? ⟨w2.heap.size, 2, none⟩ = some (.bool A.asking) ∧ w'.cell? ⟨w2.heap.size, 3, none⟩ = some (.string A.ring) ∧ w'.cell? ⟨w2.heap.size, 4, none⟩ = some (.bool A.cut) ∧ w'.cell? ⟨w3.heap.size, 0, none⟩ = some (.slice a3 A.wait.length cap3) ∧ w'.cell? ⟨w3.heap.size, 1, none⟩ = some (.int .i64 A.shown) ∧ w'.cell? ⟨w3.heap.size, 2, none⟩ = some (.bool A.asking) ∧ w'.cell? ⟨w3.heap.size, 3, none⟩ = some (.string A.ring) ∧ w'.cell? ⟨w3.heap.size, 4, none⟩ = some (.bool A.cut)) ∧ St True w w.heap.size w1.heap.size w2.heap.size w3.heap.size P A A (.slice av P.wait.length cap) (.slice a1 P.wait.length cap1) (.slice a2 A.wait.length cap2) (.slice a3 A.wait.length cap3) w') ((exact St.s (by assumption)))
      (first | (go_at_call_of 26 A.ring; refine (D1.out _ _ _ S3d.r2 (S3d.r3 trivial)).mono ?_; rintro e x4 ⟨rfl, hbx4⟩; have hst4 : St True w w.heap.size w1.heap.size w2.heap.size w3.heap.size P A A (.slice av P.wait.length cap) (.slice a1 P.wait.length cap1) (.slice a2 A.wait.length cap2) (.slice a3 A.wait.length cap3) x4 := (by first | exact S3d.behind hbx4 (Nat.le_refl _))) | (go_at_call_of 26 P.ring; refine (D2.out _ _ _ hst4.r1 hst4.r0).mono ?_; rintro e x5 ⟨rfl, hbx5⟩; have hst5 : St True w w.heap.size w1.heap.size w2.heap.size w3.heap.size P A A (.slice av P.wait.length cap) (.slice a1 P.wait.length cap1) (.slice a2 A.wait.length cap2) (.slice a3 A.wait.length cap3) x5 := (by first | exact hst4.behind hbx5 (Nat.le_refl _))) | (go_at_call 27; refine (D3.out _ _ (by first | exact hst5.r1 | exact hst8.r1)).mono ?_; rintro e x7 ⟨rfl, hbx7⟩; have hst7 : St True w w.heap.size w1.heap.size w2.heap.size w3.heap.size P A A (.slice av P.wait.length cap) (.slice a1 P.wait.length cap1) (.slice a2 A.wait.length cap2) (.slice a3 A.wait.length cap3) x7 := (by first | exact hst5.behind hbx7 (Nat.le_refl _) | exact hst8.behind hbx7 (Nat.le_refl _))) | (go_at_call 28; refine (D4.out _ _ (by first | exact hst5.r0 | exact hst7.r0)).mono ?_; rintro e x8 ⟨rfl, hbx8⟩; have hst8 : St True w w.heap.size w1.heap.size w2.heap.size w3.heap.size P A A (.slice av P.wait.length cap) (.slice a1 P.wait.length cap1) (.slice a2 A.wait.length cap2) (.slice a3 A.wait.length cap3) x8 := (by first | exact hst5.behind hbx8 (Nat.le_refl _) | exact hst7.behind hbx8 (Nat.le_refl _))))
    all_goals go_wp2_with fail
    all_goals go_meet
    all_goals exact ⟨by simp, by assumption⟩
  case rest =>
    obtain ⟨rfl, S4⟩ := hcut
    have n02 : ¬ w.heap.size = w2.heap.size := by omega
    have n12 : ¬ w1.heap.size = w2.heap.size := by omega
    have n32 : ¬ w3.heap.size = w2.heap.size := by omega
    have n03 : ¬ w.heap.size = w3.heap.size := by omega
    have n13 : ¬ w1.heap.size = w3.heap.size := by omega
    have n23 : ¬ w2.heap.size = w3.heap.size := by omega
    have ov2 := hide (off_old hv0.out (by omega) : Off (.slice av P.wait.length cap) P.wait w2.heap.size)
    have ov3 := hide (off_old hv0.out (by omega) : Off (.slice av P.wait.length cap) P.wait w3.heap.size)
    have o12 := hide (off_old of1.out (by omega) : Off (.slice a1 P.wait.length cap1) P.wait w2.heap.size)
    have o13 := hide (off_old of1.out (by omega) : Off (.slice a1 P.wait.length cap1) P.wait w3.heap.size)
    clear S3d D1 D2 D3 D4
    obtain ⟨c0, c1, c2, c3, c4, cfz⟩ := S4.k1.all
    have y2' := S4.k2.lt
    have y3' := S4.k3.lt
    replace S4 := hide S4
    go_upto_region 6 with fail
    go_cut [9] (fun e wc => e = .int .i64 E ∧ ∃ a5 cap5, St False w w.heap.size w1.heap.size w2.heap.size w3.heap.size P B A (.slice av P.wait.length cap) (.slice a1 P.wait.length cap1) (.slice a5 P.wait.length cap5) (.slice a3 A.wait.length cap3) wc ∧ Off (.slice a5 P.wait.length cap5) B.wait w3.heap.size)
    case first =>
      go_wp2_with fail
      refine (C5.out _ _ S4.out.r1).mono ?_
      rintro e x5 ⟨v5, rfl, hr5, hf5, hb5⟩
      have S5 := S4.out.behind hb5 (Nat.le_refl _)
      obtain ⟨a5, cap5, rfl⟩ := hr5.shape
      have S6 := hide (S5.third (A' := B) (va' := .slice a5 P.wait.length cap5) (by rw [HS.out]; exact hr5) ov2.out o12.out (off_far hf5 (by omega)) n02 n12 n32 (by omega))
      have O3 := hide (off_far hf5 (by omega) : Off (.slice a5 P.wait.length cap5) B.wait w3.heap.size)
      clear c0 c1 c2 c3 c4 cfz hb5 hr5 hf5
      obtain ⟨c0, c1, c2, c3, c4, cfz⟩ := S5.k2.all
      have t2 := S5.k2.lt
      clear S5 S4
      go_wp2_with fail
      go_meet
      exact ⟨rfl, _, _, S6.out, O3.out⟩
    case rest =>
      obtain ⟨rfl, a5, cap5, S6, O3⟩ := hcut
      clear c0 c1 c2 c3 c4 cfz S4 y2' y3' C5
      obtain ⟨c0, c1, c2, c3, c4, cfz⟩ := S6.k0.all
      have y2' := S6.k2.lt
      have y3' := S6.k3.lt
      replace S6 := hide S6
      replace O3 := hide O3
      go_upto_region 7 with fail
      go_cut [11] (fun e wc => e = .int .i64 E ∧ St True w w.heap.size w1.heap.size w2.heap.size w3.heap.size P B B (.slice av P.wait.length cap) (.slice a1 P.wait.length cap1) (.slice a5 P.wait.length cap5) (.slice av P.wait.length cap) wc)
      case first =>
        go_wp2_with fail
        refine (C6.out _ _ S6.out.r0).mono ?_
        rintro e x6 ⟨rfl, hb6⟩
        have S7 := S6.out.behind hb6 (Nat.le_refl _)
        have S8 := hide (S7.fourth (B' := B) (vb' := .slice av P.wait.length cap) (by rw [HS.out]; exact S7.r0) ov3.out o13.out O3.out (by rw [HS.out]; exact ov3.out) n03 n13 n23 (by omega))
        clear c0 c1 c2 c3 c4 cfz hb6
        obtain ⟨c0, c1, c2, c3, c4, cfz⟩ := S7.k3.all
        have t3 := S7.k3.lt
        clear S7 S6
        go_wp2_with fail
        go_meet
        exact ⟨rfl, S8.out⟩
      case rest =>
        obtain ⟨rfl, S8⟩ := hcut
        clear c0 c1 c2 c3 c4 cfz S6 y2' y3' C6 O3
        obtain ⟨c0, c1, c2, c3, c4, cfz⟩ := S8.k2.all
        obtain ⟨d0, d1, d2, d3, d4, dfz⟩ := S8.k3.all
        have y2' := S8.k2.lt
        have y3' := S8.k3.lt
        replace S8 := hide S8
        go_upto_region 10 with (go_at_call 26; refine (D5.out _ _ _ S8.out.r2 (S8.out.r3 trivial)).mono ?_; rintro e x8 ⟨rfl, hb8⟩; have S9 := S8.out.behind hb8 (Nat.le_refl _))
        clear c0 c1 c2 c3 c4 cfz d0 d1 d2 d3 d4 dfz S8 y2' y3' D5 hb8
        obtain ⟨c0, c1, c2, c3, c4, cfz⟩ := S9.k1.all
        have y2' := S9.k2.lt
        have y3' := S9.k3.lt
        replace S9 := hide S9
        go_cut [12] (fun e wc => e = .string X ∧ ∃ a5 cap5, St False w w.heap.size w1.heap.size w2.heap.size w3.heap.size P K B (.slice av P.wait.length cap) (.slice a1 P.wait.length cap1) (.slice a5 P.wait.length cap5) (.slice av P.wait.length cap) wc ∧ Off (.slice a5 P.wait.length cap5) K.wait w3.heap.size)
        case first =>
          go_wp2_with fail
          refine (C7.out _ _ S9.out.r1).mono ?_
          rintro e x5 ⟨v5, rfl, hr5, hf5, hb5⟩
          have S5 := S9.out.behind hb5 (Nat.le_refl _)
          obtain ⟨a6, cap6, rfl⟩ := hr5.shape
          have S6 := hide (S5.third (A' := K) (va' := .slice a6 P.wait.length cap6) (by rw [HK.out]; exact hr5) ov2.out o12.out (off_far hf5 (by omega)) n02 n12 n32 (by omega))
          have O3 := hide (off_far hf5 (by omega) : Off (.slice a6 P.wait.length cap6) K.wait w3.heap.size)
          clear c0 c1 c2 c3 c4 cfz hb5 hr5 hf5
          obtain ⟨c0, c1, c2, c3, c4, cfz⟩ := S5.k2.all
          have t2 := S5.k2.lt
          clear S5 S9
          go_wp2_with fail
          go_meet
          exact ⟨rfl, _, _, S6.out, O3.out⟩
        case rest =>
          obtain ⟨rfl, a6, cap6, S6, O3⟩ := hcut
          clear c0 c1 c2 c3 c4 cfz S9 y2' y3' C7
          obtain ⟨c0, c1, c2, c3, c4, cfz⟩ := S6.k0.all
          have y2' := S6.k2.lt
          have y3' := S6.k3.lt
          replace S6 := hide S6
          replace O3 := hide O3
          go_upto_region 11 with fail
          go_cut [13] (fun e wc => e = .string X ∧ St True w w.heap.size w1.heap.size w2.heap.size w3.heap.size P K K (.slice av P.wait.length cap) (.slice a1 P.wait.length cap1) (.slice a6 P.wait.length cap6) (.slice av P.wait.length cap) wc)
          case first =>
            go_wp2_with fail
            refine (C8.out _ _ S6.out.r0).mono ?_
            rintro e x6 ⟨rfl, hb6⟩
            have S7 := S6.out.behind hb6 (Nat.le_refl _)
            have S8 := hide (S7.fourth (B' := K) (vb' := .slice av P.wait.length cap) (by rw [HK.out]; exact S7.r0) ov3.out o13.out O3.out (by rw [HK.out]; exact ov3.out) n03 n13 n23 (by omega))
            clear c0 c1 c2 c3 c4 cfz hb6
            obtain ⟨c0, c1, c2, c3, c4, cfz⟩ := S7.k3.all
            have t3 := S7.k3.lt
            clear S7 S6
            go_wp2_with fail
            go_meet
            exact ⟨rfl, S8.out⟩
          case rest =>
            obtain ⟨rfl, S8⟩ := hcut
            clear c0 c1 c2 c3 c4 cfz S6 y2' y3' C8 O3
            obtain ⟨c0, c1, c2, c3, c4, cfz⟩ := S8.k0.all
            have y0' := S8.k0.lt
            replace S8 := hide S8
            go_upto_region 14 with fail
            have hB := (Below.refl wc.heap.size wc).alloc (Nat.le_refl _) (.cells (Pg.cells ⟨P.wait, 0, false, P.ring, P.cut⟩ (.slice av P.wait.length cap)) 43)
            have F : Sf w w1.heap.size w2.heap.size w3.heap.size wc.heap.size P K U (.slice av P.wait.length cap) (.slice a1 P.wait.length cap1) (.slice a6 P.wait.length cap6) (.slice av P.wait.length cap) (wc.alloc (.cells (Pg.cells ⟨P.wait, 0, false, P.ring, P.cut⟩ (.slice av P.wait.length cap)) 43)) := by
              have S9 := S8.out.behind hB (Nat.le_refl _)
              exact ⟨S9.k1, S9.k2, S9.k3, by rw [HU.out]; exact heap_alloc_new wc _, by rw [HU.out]; exact S9.r0, S9.r1, S9.r2, S9.r3 trivial, S9.lo⟩
            unfold Pg.cells at F
            dsimp only at F
            clear hB c0 c1 c2 c3 c4 cfz S8
            generalize wc.heap.size = b4 at F ⊢
            generalize wc.alloc _ = wt at F ⊢
            have Fd := F.drew
            clear F
            go_region_held3 (fun w' => (w'.cell? ⟨w1.heap.size, 0, none⟩ = some (.slice a1 P.wait.length cap1) ∧ w'.cell? ⟨w1.heap.size, 1, none⟩ = some (.int .i64 P.shown) ∧ w'.cell? ⟨w1.heap.size, 2, none⟩ = some (.bool P.asking) ∧ w'.cell? ⟨w1.heap.size, 3, none⟩ = some (.string P.ring) ∧ w'.cell? ⟨w1.heap.size, 4, none⟩ = some (.bool P.cut) ∧ w'.cell? ⟨w2.heap.size, 0, none⟩ = some (.slice a6 P.wait.length cap6) ∧ w'.cell? ⟨w2.heap.size, 1, none⟩ = some (.int .i64 K.shown) ∧ w'.cell? ⟨w2.heap.size, 2, none⟩ = some (.bool K.asking) ∧ w'.cell? ⟨w2.heap.size, 3, none⟩ = some (.string K.ring) ∧ w'.cell? ⟨w2.heap.size, 4, none⟩ = some (.bool K.cut) ∧ w'.cell? ⟨w3.heap.size, 0, none⟩ = some (.slice av P.wait.length cap) ∧ w'.cell? ⟨w3.heap.size, 1, none⟩ = some (.int .i64 K.shown) ∧ w'.cell? ⟨w3.heap.size, 2, none⟩ = some (.bool K.asking) ∧ w'.cell? ⟨w3.heap.size, 3, none⟩ = some (.string K.ring) ∧ w'.cell? ⟨w3.heap.size, 4, none⟩ = some (.bool K.cut) ∧ w'.cell? ⟨b4, 0, none⟩ = some (.slice av P.wait.length cap) ∧ w'.cell? ⟨b4, 1, none⟩ = some (.int .i64 U.shown) ∧ w'.cell? ⟨b4, 2, none⟩ = some (.bool U.asking) ∧ w'.cell? ⟨b4, 3, none⟩ = some (.string U.ring) ∧ w'.cell? ⟨b4, 4, none⟩ = some (.bool U.cut)) ∧ Sf w w1.heap.size w2.heap.size w3.heap.size b4 P K U (.slice av P.wait.length cap) (.slice a1 P.wait.length cap1) (.slice a6 P.wait.length cap6) (.slice av P.wait.length cap) w') ((exact Sf.s (by assumption)))
              (first | (go_at_call_of 26 K.ring; refine (D6.out _ _ _ Fd.r2 Fd.r3).mono ?_; rintro e x4 ⟨rfl, hbx4⟩; have hf4 : Sf w w1.heap.size w2.heap.size w3.heap.size b4 P K U (.slice av P.wait.length cap) (.slice a1 P.wait.length cap1) (.slice a6 P.wait.length cap6) (.slice av P.wait.length cap) x4 := Fd.behind hbx4 (Nat.le_refl _)) | (go_at_call 33; refine (C9.out _ _ hf4.r1).mono ?_; rintro e x5 ⟨vT, rfl, hrT, _, hbx5⟩; have hf5 : Sf w w1.heap.size w2.heap.size w3.heap.size b4 P K U (.slice av P.wait.length cap) (.slice a1 P.wait.length cap1) (.slice a6 P.wait.length cap6) (.slice av P.wait.length cap) x5 := hf4.behind hbx5 (Nat.le_refl _); have hrU : Reads x5 vT U.wait := (by rw [HU.out]; exact hrT)) | (go_at_call_of 26 U.ring; refine (D7.out _ _ _ hrU hf5.r0).mono ?_; rintro e x6 ⟨rfl, hbx6⟩; have hf6 : Sf w w1.heap.size w2.heap.size w3.heap.size b4 P K U (.slice av P.wait.length cap) (.slice a1 P.wait.length cap1) (.slice a6 P.wait.length cap6) (.slice av P.wait.length cap) x6 := hf5.behind hbx6 (Nat.le_refl _)) | (go_at_call 34; refine (CW.out _).mono ?_; rintro e x7 ⟨rfl, hbx7⟩; have hf7 : Sf w w1.heap.size w2.heap.size w3.heap.size b4 P K U (.slice av P.wait.length cap) (.slice a1 P.wait.length cap1) (.slice a6 P.wait.length cap6) (.slice av P.wait.length cap) x7 := hf6.behind hbx7 (Nat.le_refl _)))
            all_goals go_wp2
            all_goals go_ret
            all_goals exact ⟨by simp, hf7.lo⟩
end Go.Proofs.Ytbjcmnemcgadjab
