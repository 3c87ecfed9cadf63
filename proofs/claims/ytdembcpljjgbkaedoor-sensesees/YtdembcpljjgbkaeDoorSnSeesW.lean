/-
  The law SenseSees: everybody sees itself, and others only in its own room, in the light, not hidden or keenly.
-/
import Derived.Test.YtdembcpljjgbkaeDoorSnKs
namespace Go.Proofs.YtdembcpljjgbkaeDoor
open Go.RowKit
set_option linter.unusedVariables false

set_option maxRecDepth 100000 in
set_option maxHeartbeats 2000000 in
theorem seesW (L : Ld) (a b : Int) (w : World) (hv : Vb w) (hai : Ai w) :
    Calls Tryd.prog 4 #[.agg L.cells, .int .i64 a, .int .i64 b] w fun e w' => e = .returned (.bool true) ∧ Below w.heap.size w w' := by
  have HV := hide hv
  have HAi := hide hai
  clear hv hai
  cases hs : seesL L a b with
  | false =>
    have HS := hide hs
    by_cases hab : a = b
    · subst hab
      have habt : abtL L a = false := by rw [← sees_self]; exact hs
      by_cases h0 : 0 ≤ a
      · by_cases h6 : a < 6
        · obtain ⟨k, rfl⟩ := Int.eq_ofNat_of_zero_le h0
          have hh : L.here k = false := by simpa [abtL, amg, h6] using habt
          have hmin : min (k : Int) 5 = (k : Int) := by omega
          have hmax : max (0 : Int) (k : Int) = (k : Int) := by omega
          have HH := hide hh
          clear hs habt hh
          go_enter Tryd.func4, Tryd.ntmps4
          go_wp2_with (refine wl_land (.tmp 3) rfl rfl _ L rfl (cod_new w L) ?_)
          refine (sees_any L (k : Int) (k : Int) _).mono ?_
          rintro e w1 ⟨rfl, hb⟩
          have G1 := hide ((gd_start L w).call hb)
          rw [HS.out]
          have kh : w1.cell? ⟨w.heap.size, 129 + k * 6 + 1, none⟩ = some (.bool false) := by
            have := G1.out.cod.being k 1 (by omega) (by omega)
            rw [← HH.out]; exact this
          clear hb
          go_wp2
          go_ret
          exact ⟨rfl, G1.out.low⟩
        · clear hs habt
          go_enter Tryd.func4, Tryd.ntmps4
          go_wp2_with (refine wl_land (.tmp 3) rfl rfl _ L rfl (cod_new w L) ?_)
          refine (sees_any L a a _).mono ?_
          rintro e w1 ⟨rfl, hb⟩
          have G1 := hide ((gd_start L w).call hb)
          rw [HS.out]
          clear hb
          go_wp2
          go_ret
          exact ⟨rfl, G1.out.low⟩
      · clear hs habt
        go_enter Tryd.func4, Tryd.ntmps4
        go_wp2_with (refine wl_land (.tmp 3) rfl rfl _ L rfl (cod_new w L) ?_)
        refine (sees_any L a a _).mono ?_
        rintro e w1 ⟨rfl, hb⟩
        have G1 := hide ((gd_start L w).call hb)
        rw [HS.out]
        clear hb
        go_wp2
        go_ret
        exact ⟨rfl, G1.out.low⟩
    · have fab : (a != b) = true := by simp [hab]
      clear hs hab
      go_enter Tryd.func4, Tryd.ntmps4
      go_wp2_with (refine wl_land (.tmp 3) rfl rfl _ L rfl (cod_new w L) ?_)
      refine (sees_any L a b _).mono ?_
      rintro e w1 ⟨rfl, hb⟩
      have G1 := hide ((gd_start L w).call hb)
      rw [HS.out]
      clear hb
      go_wp2
      go_ret
      exact ⟨rfl, G1.out.low⟩
  | true =>
    have HS := hide hs
    obtain ⟨ha, hB⟩ := sees_about hs
    have HF := hide (fun h : a ≠ b => sees_far hs h)
    have pa : amg a 6 = true := by simp only [abtL, Bool.and_eq_true] at ha; exact ha.1
    have pb : amg b 6 = true := by simp only [abtL, Bool.and_eq_true] at hB; exact hB.1
    obtain ⟨a0, a6⟩ := amg_pos pa
    obtain ⟨b0, b6⟩ := amg_pos pb
    obtain ⟨x, rfl⟩ := Int.eq_ofNat_of_zero_le a0
    obtain ⟨y, rfl⟩ := Int.eq_ofNat_of_zero_le b0
    have HX := hide (show L.here x = true by simpa [abtL, pa] using ha)
    have HY := hide (show L.here y = true by simpa [abtL, pb] using hB)
    clear hs ha hB pa pb
    go_enter Tryd.func4, Tryd.ntmps4
    go_wp2_with (refine wl_land (.tmp 3) rfl rfl _ L rfl (cod_new w L) ?_)
    refine (sees_any L (x : Int) (y : Int) _).mono ?_
    rintro e w2 ⟨rfl, hb⟩
    have G2 := hide ((gd_start L w).call hb)
    rw [HS.out]
    clear hb
    have cx0 : w2.cell? ⟨w.heap.size, 129 + x * 6, none⟩ = some (.string (L.bname x)) := G2.out.cod.being x 0 (by omega) (by omega)
    have cx1 : w2.cell? ⟨w.heap.size, 129 + x * 6 + 1, none⟩ = some (.bool true) := by
      have := G2.out.cod.being x 1 (by omega) (by omega)
      rw [← HX.out]; exact this
    have cx2 : w2.cell? ⟨w.heap.size, 129 + x * 6 + 2, none⟩ = some (.bool (L.keen x)) := G2.out.cod.being x 2 (by omega) (by omega)
    have cx3 : w2.cell? ⟨w.heap.size, 129 + x * 6 + 3, none⟩ = some (.int .i64 (L.room x)) := G2.out.cod.being x 3 (by omega) (by omega)
    have cx4 : w2.cell? ⟨w.heap.size, 129 + x * 6 + 4, none⟩ = some (.int .i64 (L.health x)) := G2.out.cod.being x 4 (by omega) (by omega)
    have cx5 : w2.cell? ⟨w.heap.size, 129 + x * 6 + 5, none⟩ = some (.int .i64 (L.foe x)) := G2.out.cod.being x 5 (by omega) (by omega)
    have cy0 : w2.cell? ⟨w.heap.size, 129 + y * 6, none⟩ = some (.string (L.bname y)) := G2.out.cod.being y 0 (by omega) (by omega)
    have cy1 : w2.cell? ⟨w.heap.size, 129 + y * 6 + 1, none⟩ = some (.bool true) := by
      have := G2.out.cod.being y 1 (by omega) (by omega)
      rw [← HY.out]; exact this
    have cy2 : w2.cell? ⟨w.heap.size, 129 + y * 6 + 2, none⟩ = some (.bool (L.keen y)) := G2.out.cod.being y 2 (by omega) (by omega)
    have cy3 : w2.cell? ⟨w.heap.size, 129 + y * 6 + 3, none⟩ = some (.int .i64 (L.room y)) := G2.out.cod.being y 3 (by omega) (by omega)
    have cy4 : w2.cell? ⟨w.heap.size, 129 + y * 6 + 4, none⟩ = some (.int .i64 (L.health y)) := G2.out.cod.being y 4 (by omega) (by omega)
    have cy5 : w2.cell? ⟨w.heap.size, 129 + y * 6 + 5, none⟩ = some (.int .i64 (L.foe y)) := G2.out.cod.being y 5 (by omega) (by omega)
    have hlt : w.heap.size < w2.heap.size := G2.out.cod.lt
    go_wp2
    go_cut [7, 8] (fun p q wc => ∃ i j : Nat, p = .pointer (some ⟨i, 0, none⟩) ∧ q = .pointer (some ⟨j, 0, none⟩) ∧ GdRel L w wc ∧ wc.cell? ⟨i, 1, none⟩ = some (.bool true) ∧ wc.cell? ⟨j, 1, none⟩ = some (.bool true) ∧ wc.cell? ⟨i, 2, none⟩ = some (.bool (L.keen x)) ∧ wc.cell? ⟨i, 3, none⟩ = some (.int .i64 (L.room x)) ∧ wc.cell? ⟨j, 3, none⟩ = some (.int .i64 (L.room y)))
    case first =>
      go_region
      · go_wp2
        go_meet
        exact ⟨_, _, rfl, rfl, ((G2.out.box _).box _).drew, by go_simp, by go_simp, by go_simp, by go_simp, by go_simp⟩
      · go_wp2
        go_meet
        exact ⟨_, _, rfl, rfl, ((G2.out.box _).box _).drew, by go_simp, by go_simp, by go_simp, by go_simp, by go_simp⟩
    case rest =>
      obtain ⟨i, j, rfl, rfl, g, k1, m1, k2, k3, m3⟩ := hcut
      clear cx0 cx1 cx2 cx3 cx4 cx5 cy0 cy1 cy2 cy3 cy4 cy5 hlt
      have G3 := hide g
      clear g G2
      by_cases hxy : (x : Int) = (y : Int)
      · have fxy : ((x : Int) == (y : Int)) = true := by simp [hxy]
        clear hxy HF
        go_wp2_with fail
        refine (ksenses_any _ (HV.out.below G3.out.low (Nat.le_refl _)) (HAi.out.below G3.out.low)).mono ?_
        rintro e w4 ⟨rfl, hb⟩
        have G4 := hide (G3.out.call hb)
        clear hb
        go_wp2
        go_ret
        exact ⟨rfl, G4.out.low⟩
      · have fxy : ((x : Int) == (y : Int)) = false := by simp [hxy]
        obtain ⟨e1, e2, e3⟩ := HF.out hxy
        simp only [Int.toNat_natCast] at e1 e2 e3
        have fr : (L.room x == L.room y) = true := by simp [e1]
        have HB := hide (show brightL L (L.room x) = true by rw [e1]; exact e2)
        have HE := hide e3
        clear hxy e1 e2 e3 HF
        go_wp2_with (refine wl_land (.tmp 3) rfl rfl _ L rfl G3.out.cod ?_)
        refine (bright_any L (L.room x) _).mono ?_
        rintro e w3 ⟨rfl, hb⟩
        rw [HB.out]
        have c2 : w3.cell? ⟨i, 2, none⟩ = some (.bool (L.keen x)) := by rw [hb.cell (cell_lt k2)]; exact k2
        have G4 := hide (G3.out.call hb)
        clear hb k1 m1 k2 k3 m3
        cases hkn : L.keen x with
        | true =>
          rw [hkn] at c2
          go_wp2_with fail
          refine (ksenses_any _ (HV.out.below G4.out.low (Nat.le_refl _)) (HAi.out.below G4.out.low)).mono ?_
          rintro e w4 ⟨rfl, hb⟩
          have G5 := hide (G4.out.call hb)
          clear hb
          go_wp2
          go_ret
          exact ⟨rfl, G5.out.low⟩
        | false =>
          have HH := hide (show hiddenL L (y : Int) = false by
            rcases HE.out with h | h
            · exact h
            · rw [hkn] at h; simp at h)
          rw [hkn] at c2
          go_wp2_with (refine wl_land (.tmp 3) rfl rfl _ L rfl G4.out.cod ?_)
          refine (hidden_any L (y : Int) _).mono ?_
          rintro e w4 ⟨rfl, hb⟩
          rw [HH.out]
          have G5 := hide (G4.out.call hb)
          clear hb c2
          go_wp2_with fail
          refine (ksenses_any _ (HV.out.below G5.out.low (Nat.le_refl _)) (HAi.out.below G5.out.low)).mono ?_
          rintro e w5 ⟨rfl, hb⟩
          have G6 := hide (G5.out.call hb)
          clear hb
          go_wp2
          go_ret
          exact ⟨rfl, G6.out.low⟩
end Go.Proofs.YtdembcpljjgbkaeDoor
