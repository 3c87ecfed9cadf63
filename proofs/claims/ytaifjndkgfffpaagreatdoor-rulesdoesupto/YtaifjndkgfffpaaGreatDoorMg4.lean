/-
  The document's own IsSeen: its contract.
-/
import Derived.Test.YtaifjndkgfffpaaGreatDoorMgN
import Derived.Test.YtaifjndkgfffpaaGreatDoorMgD
import Derived.Test.YtaifjndkgfffpaaGreatDoorMgC
namespace Go.Proofs.YtaifjndkgfffpaaGreatDoor
open Go.RowKit
set_option linter.unusedVariables false
set_option maxRecDepth 100000 in
set_option maxHeartbeats 2000000 in
theorem isseen_any (L : Ld) (a b : Int) (w : World) :
    Calls Tryz.prog 50 #[.agg L.cells, .int .i64 a, .int .i64 b] w fun e w' => e = .returned (.bool (seesL L a b)) ∧ Below w.heap.size w w' := by
  cases ha : abtL L a with
  | false =>
    have HV := hide (sees_not (b := b) (.inl ha))
    have HA := hide ha
    clear ha
    go_enter Tryz.func50, Tryz.ntmps50
    go_wp2_with (refine wl_land (.tmp 3) rfl rfl _ L rfl (cod_new w L) ?_)
    refine (about_any L a _).mono ?_
    rintro e w1 ⟨rfl, hb⟩
    have G1 := hide ((gd_start L w).call hb)
    rw [HA.out]
    clear hb
    go_wp2
    go_ret
    exact ⟨ret_bool HV.out.symm, G1.out.low⟩
  | true =>
    cases hB : abtL L b with
    | false =>
      have HV := hide (sees_not (a := a) (.inr hB))
      have HA := hide ha
      have HB := hide hB
      clear ha hB
      go_enter Tryz.func50, Tryz.ntmps50
      go_wp2_with (refine wl_land (.tmp 3) rfl rfl _ L rfl (cod_new w L) ?_)
      refine (about_any L a _).mono ?_
      rintro e w1 ⟨rfl, hb⟩
      have G1 := hide ((gd_start L w).call hb)
      rw [HA.out]
      clear hb
      go_wp2_with (refine wl_land (.tmp 3) rfl rfl _ L rfl G1.out.cod ?_)
      refine (about_any L b _).mono ?_
      rintro e w2 ⟨rfl, hb⟩
      have G2 := hide (G1.out.call hb)
      rw [HB.out]
      clear hb
      go_wp2
      go_ret
      exact ⟨ret_bool HV.out.symm, G2.out.low⟩
    | true =>
      have HA := hide ha
      have HB := hide hB
      have pa : amg a 6 = true := by simp only [abtL, Bool.and_eq_true] at ha; exact ha.1
      have pb : amg b 6 = true := by simp only [abtL, Bool.and_eq_true] at hB; exact hB.1
      obtain ⟨a0, a6⟩ := amg_pos pa
      obtain ⟨b0, b6⟩ := amg_pos pb
      obtain ⟨x, rfl⟩ := Int.eq_ofNat_of_zero_le a0
      obtain ⟨y, rfl⟩ := Int.eq_ofNat_of_zero_le b0
      by_cases hab : (x : Int) = (y : Int)
      · have HN := hide (show seesL L (x : Int) (y : Int) = true by rw [← hab, sees_self, ha])
        have fab : ((x : Int) == (y : Int)) = true := by simp [hab]
        clear ha hB pa pb hab
        go_enter Tryz.func50, Tryz.ntmps50
        go_wp2_with (refine wl_land (.tmp 3) rfl rfl _ L rfl (cod_new w L) ?_)
        refine (about_any L (x : Int) _).mono ?_
        rintro e w1 ⟨rfl, hb⟩
        have G1 := hide ((gd_start L w).call hb)
        rw [HA.out]
        clear hb
        go_wp2_with (refine wl_land (.tmp 3) rfl rfl _ L rfl G1.out.cod ?_)
        refine (about_any L (y : Int) _).mono ?_
        rintro e w2 ⟨rfl, hb⟩
        have G2 := hide (G1.out.call hb)
        rw [HB.out]
        clear hb
        have G2d : GdRel L w w2.drew := G2.out.drew
        go_wp2_with fail
        refine wp_region_held (S := fun W => GdRel L w W) (by kernel_rfl) ?_
        refine tw (i := 0) (d := some 17) (fuel := 38) (v := ?_) rfl rfl ?_ G2d ?_
        rotate_left
        · intro W hW
          have c1 : W.cell? ⟨w.heap.size, 129 + x * 6 + 3, none⟩ = some (.int .i64 (L.room x)) := hW.cod.being x 3 (by omega) (by omega)
          have c2 : W.cell? ⟨w.heap.size, 129 + y * 6 + 3, none⟩ = some (.int .i64 (L.room y)) := hW.cod.being y 3 (by omega) (by omega)
          have c3 : W.cell? ⟨w.heap.size, 129 + x * 6 + 2, none⟩ = some (.bool (L.keen x)) := hW.cod.being x 2 (by omega) (by omega)
          go_simp
          try with_reducible rfl
        simp only [Act.put, sT, List.set]
        refine tw (i := 1) (d := some 18) (fuel := 37) (v := ?_) rfl rfl ?_ G2d ?_
        rotate_left
        · intro W hW
          have c1 : W.cell? ⟨w.heap.size, 129 + x * 6 + 3, none⟩ = some (.int .i64 (L.room x)) := hW.cod.being x 3 (by omega) (by omega)
          have c2 : W.cell? ⟨w.heap.size, 129 + y * 6 + 3, none⟩ = some (.int .i64 (L.room y)) := hW.cod.being y 3 (by omega) (by omega)
          have c3 : W.cell? ⟨w.heap.size, 129 + x * 6 + 2, none⟩ = some (.bool (L.keen x)) := hW.cod.being x 2 (by omega) (by omega)
          go_simp
          try with_reducible rfl
        simp only [Act.put, sT, List.set]
        refine tw (i := 2) (d := some 19) (fuel := 36) (v := ?_) rfl rfl ?_ G2d ?_
        rotate_left
        · intro W hW
          have c1 : W.cell? ⟨w.heap.size, 129 + x * 6 + 3, none⟩ = some (.int .i64 (L.room x)) := hW.cod.being x 3 (by omega) (by omega)
          have c2 : W.cell? ⟨w.heap.size, 129 + y * 6 + 3, none⟩ = some (.int .i64 (L.room y)) := hW.cod.being y 3 (by omega) (by omega)
          have c3 : W.cell? ⟨w.heap.size, 129 + x * 6 + 2, none⟩ = some (.bool (L.keen x)) := hW.cod.being x 2 (by omega) (by omega)
          go_simp
          try with_reducible rfl
        simp only [Act.put, sT, List.set]
        refine tw (i := 3) (d := some 20) (fuel := 35) (v := ?_) rfl rfl ?_ G2d ?_
        rotate_left
        · intro W hW
          have c1 : W.cell? ⟨w.heap.size, 129 + x * 6 + 3, none⟩ = some (.int .i64 (L.room x)) := hW.cod.being x 3 (by omega) (by omega)
          have c2 : W.cell? ⟨w.heap.size, 129 + y * 6 + 3, none⟩ = some (.int .i64 (L.room y)) := hW.cod.being y 3 (by omega) (by omega)
          have c3 : W.cell? ⟨w.heap.size, 129 + x * 6 + 2, none⟩ = some (.bool (L.keen x)) := hW.cod.being x 2 (by omega) (by omega)
          go_simp
          try with_reducible rfl
        simp only [Act.put, sT, List.set]
        refine tk (i := 4) (d := some 21) (fuel := 34) (v := undef) rfl rfl (Or.inr ⟨by rfl, rfl⟩) G2d ?_
        simp only [Act.put, sT, List.set]
        refine tk (i := 5) (d := some 22) (fuel := 33) (v := undef) rfl rfl (Or.inr ⟨by rfl, rfl⟩) G2d ?_
        simp only [Act.put, sT, List.set]
        refine tk (i := 6) (d := some 23) (fuel := 32) (v := undef) rfl rfl (Or.inr ⟨by rfl, rfl⟩) G2d ?_
        simp only [Act.put, sT, List.set]
        refine tk (i := 7) (d := some 24) (fuel := 31) (v := undef) rfl rfl (Or.inr ⟨by rfl, rfl⟩) G2d ?_
        simp only [Act.put, sT, List.set]
        refine tk (i := 8) (d := some 25) (fuel := 30) (v := undef) rfl rfl (Or.inr ⟨by rfl, rfl⟩) G2d ?_
        simp only [Act.put, sT, List.set]
        refine tk (i := 9) (d := some 26) (fuel := 29) (v := undef) rfl rfl (Or.inr ⟨by rfl, rfl⟩) G2d ?_
        simp only [Act.put, sT, List.set]
        refine tk (i := 10) (d := some 27) (fuel := 28) (v := undef) rfl rfl (Or.inr ⟨by rfl, rfl⟩) G2d ?_
        simp only [Act.put, sT, List.set]
        refine tk (i := 11) (d := some 28) (fuel := 27) (v := undef) rfl rfl (Or.inr ⟨by rfl, rfl⟩) G2d ?_
        simp only [Act.put, sT, List.set]
        refine tk (i := 12) (d := some 29) (fuel := 26) (v := undef) rfl rfl (Or.inr ⟨by rfl, rfl⟩) G2d ?_
        simp only [Act.put, sT, List.set]
        refine tk (i := 13) (d := some 30) (fuel := 25) (v := undef) rfl rfl (Or.inr ⟨by rfl, rfl⟩) G2d ?_
        simp only [Act.put, sT, List.set]
        refine tk (i := 14) (d := some 31) (fuel := 24) (v := undef) rfl rfl (Or.inr ⟨by rfl, rfl⟩) G2d ?_
        simp only [Act.put, sT, List.set]
        refine tk (i := 15) (d := some 32) (fuel := 23) (v := undef) rfl rfl (Or.inr ⟨by rfl, rfl⟩) G2d ?_
        simp only [Act.put, sT, List.set]
        refine tk (i := 16) (d := some 33) (fuel := 22) (v := undef) rfl rfl (Or.inr ⟨by rfl, rfl⟩) G2d ?_
        simp only [Act.put, sT, List.set]
        refine tk (i := 17) (d := some 34) (fuel := 21) (v := undef) rfl rfl (Or.inr ⟨by rfl, rfl⟩) G2d ?_
        simp only [Act.put, sT, List.set]
        refine tk (i := 18) (d := some 35) (fuel := 20) (v := undef) rfl rfl (Or.inr ⟨by rfl, rfl⟩) G2d ?_
        simp only [Act.put, sT, List.set]
        refine tk (i := 19) (d := some 36) (fuel := 19) (v := undef) rfl rfl (Or.inr ⟨by rfl, rfl⟩) G2d ?_
        simp only [Act.put, sT, List.set]
        refine tk (i := 20) (d := some 37) (fuel := 18) (v := undef) rfl rfl (Or.inr ⟨by rfl, rfl⟩) G2d ?_
        simp only [Act.put, sT, List.set]
        refine tk (i := 21) (d := some 38) (fuel := 17) (v := undef) rfl rfl (Or.inr ⟨by rfl, rfl⟩) G2d ?_
        simp only [Act.put, sT, List.set]
        refine tk (i := 22) (d := some 39) (fuel := 16) (v := undef) rfl rfl (Or.inr ⟨by rfl, rfl⟩) G2d ?_
        simp only [Act.put, sT, List.set]
        refine tk (i := 23) (d := some 40) (fuel := 15) (v := undef) rfl rfl (Or.inr ⟨by rfl, rfl⟩) G2d ?_
        simp only [Act.put, sT, List.set]
        refine tk (i := 24) (d := some 41) (fuel := 14) (v := undef) rfl rfl (Or.inr ⟨by rfl, rfl⟩) G2d ?_
        simp only [Act.put, sT, List.set]
        refine tk (i := 25) (d := some 42) (fuel := 13) (v := undef) rfl rfl (Or.inr ⟨by rfl, rfl⟩) G2d ?_
        simp only [Act.put, sT, List.set]
        refine tk (i := 26) (d := some 43) (fuel := 12) (v := undef) rfl rfl (Or.inr ⟨by rfl, rfl⟩) G2d ?_
        simp only [Act.put, sT, List.set]
        refine tk (i := 27) (d := some 44) (fuel := 11) (v := undef) rfl rfl (Or.inr ⟨by rfl, rfl⟩) G2d ?_
        simp only [Act.put, sT, List.set]
        refine tk (i := 28) (d := some 45) (fuel := 10) (v := undef) rfl rfl (Or.inr ⟨by rfl, rfl⟩) G2d ?_
        simp only [Act.put, sT, List.set]
        refine tk (i := 29) (d := some 46) (fuel := 9) (v := undef) rfl rfl (Or.inr ⟨by rfl, rfl⟩) G2d ?_
        simp only [Act.put, sT, List.set]
        refine tk (i := 30) (d := some 47) (fuel := 8) (v := undef) rfl rfl (Or.inr ⟨by rfl, rfl⟩) G2d ?_
        simp only [Act.put, sT, List.set]
        refine tk (i := 31) (d := some 48) (fuel := 7) (v := undef) rfl rfl (Or.inr ⟨by rfl, rfl⟩) G2d ?_
        simp only [Act.put, sT, List.set]
        refine tk (i := 32) (d := some 49) (fuel := 6) (v := undef) rfl rfl (Or.inr ⟨by rfl, rfl⟩) G2d ?_
        simp only [Act.put, sT, List.set]
        refine tk (i := 33) (d := some 50) (fuel := 5) (v := undef) rfl rfl (Or.inr ⟨by rfl, rfl⟩) G2d ?_
        simp only [Act.put, sT, List.set]
        refine tk (i := 34) (d := some 51) (fuel := 4) (v := undef) rfl rfl (Or.inr ⟨by rfl, rfl⟩) G2d ?_
        simp only [Act.put, sT, List.set]
        refine tk (i := 35) (d := some 52) (fuel := 3) (v := undef) rfl rfl (Or.inr ⟨by rfl, rfl⟩) G2d ?_
        simp only [Act.put, sT, List.set]
        refine tk (i := 36) (d := some 53) (fuel := 2) (v := undef) rfl rfl (Or.inr ⟨by rfl, rfl⟩) G2d ?_
        simp only [Act.put, sT, List.set]
        refine tw (i := 37) (d := some 54) (fuel := 1) (v := ?_) rfl rfl ?_ G2d ?_
        rotate_left
        · intro W hW
          have c1 : W.cell? ⟨w.heap.size, 129 + x * 6 + 3, none⟩ = some (.int .i64 (L.room x)) := hW.cod.being x 3 (by omega) (by omega)
          have c2 : W.cell? ⟨w.heap.size, 129 + y * 6 + 3, none⟩ = some (.int .i64 (L.room y)) := hW.cod.being y 3 (by omega) (by omega)
          have c3 : W.cell? ⟨w.heap.size, 129 + x * 6 + 2, none⟩ = some (.bool (L.keen x)) := hW.cod.being x 2 (by omega) (by omega)
          go_simp
          try with_reducible rfl
        simp only [Act.put, sT, List.set]
        refine tw (i := 38) (d := some 6) (fuel := 0) (v := ?_) rfl rfl ?_ G2d ?_
        rotate_left
        · intro W hW
          have c1 : W.cell? ⟨w.heap.size, 129 + x * 6 + 3, none⟩ = some (.int .i64 (L.room x)) := hW.cod.being x 3 (by omega) (by omega)
          have c2 : W.cell? ⟨w.heap.size, 129 + y * 6 + 3, none⟩ = some (.int .i64 (L.room y)) := hW.cod.being y 3 (by omega) (by omega)
          have c3 : W.cell? ⟨w.heap.size, 129 + x * 6 + 2, none⟩ = some (.bool (L.keen x)) := hW.cod.being x 2 (by omega) (by omega)
          go_simp
          try with_reducible rfl
        simp only [Act.put, sT, List.set]
        refine wpAnyH_done (by kernel_rfl) ?_ _
        go_wp2
        go_ret
        exact ⟨ret_bool HN.out.symm, G2d.low⟩
      · have HV0 := sees_if ha hB hab
        rw [Int.toNat_natCast, Int.toNat_natCast] at HV0
        have HV := hide HV0
        have fab : ((x : Int) == (y : Int)) = false := by simp [hab]
        clear ha hB pa pb hab HV0
        by_cases hr : L.room x = L.room y
        · have fr : (L.room x == L.room y) = true := by simp [hr]
          have HV2 := hide (show seesL L (x : Int) (y : Int) = (brightL L (L.room y) && (!hiddenL L (y : Int) || L.keen x)) by rw [HV.out, decide_eq_true hr]; simp)
          clear hr
          cases hbr : brightL L (L.room y) with
          | false =>
            have HN := hide (show seesL L (x : Int) (y : Int) = false by rw [HV2.out, hbr]; rfl)
            go_enter Tryz.func50, Tryz.ntmps50
            go_wp2_with (refine wl_land (.tmp 3) rfl rfl _ L rfl (cod_new w L) ?_)
            refine (about_any L (x : Int) _).mono ?_
            rintro e w1 ⟨rfl, hb⟩
            have G1 := hide ((gd_start L w).call hb)
            rw [HA.out]
            clear hb
            go_wp2_with (refine wl_land (.tmp 3) rfl rfl _ L rfl G1.out.cod ?_)
            refine (about_any L (y : Int) _).mono ?_
            rintro e w2 ⟨rfl, hb⟩
            have G2 := hide (G1.out.call hb)
            rw [HB.out]
            clear hb
            have G2d : GdRel L w w2.drew := G2.out.drew
            go_wp2_with fail
            refine wp_region_held (S := fun W => GdRel L w W) (by kernel_rfl) ?_
            refine tw (i := 0) (d := some 17) (fuel := 38) (v := ?_) rfl rfl ?_ G2d ?_
            rotate_left
            · intro W hW
              have c1 : W.cell? ⟨w.heap.size, 129 + x * 6 + 3, none⟩ = some (.int .i64 (L.room x)) := hW.cod.being x 3 (by omega) (by omega)
              have c2 : W.cell? ⟨w.heap.size, 129 + y * 6 + 3, none⟩ = some (.int .i64 (L.room y)) := hW.cod.being y 3 (by omega) (by omega)
              have c3 : W.cell? ⟨w.heap.size, 129 + x * 6 + 2, none⟩ = some (.bool (L.keen x)) := hW.cod.being x 2 (by omega) (by omega)
              go_simp
              try with_reducible rfl
            simp only [Act.put, sT, List.set]
            refine tw (i := 1) (d := some 18) (fuel := 37) (v := ?_) rfl rfl ?_ G2d ?_
            rotate_left
            · intro W hW
              have c1 : W.cell? ⟨w.heap.size, 129 + x * 6 + 3, none⟩ = some (.int .i64 (L.room x)) := hW.cod.being x 3 (by omega) (by omega)
              have c2 : W.cell? ⟨w.heap.size, 129 + y * 6 + 3, none⟩ = some (.int .i64 (L.room y)) := hW.cod.being y 3 (by omega) (by omega)
              have c3 : W.cell? ⟨w.heap.size, 129 + x * 6 + 2, none⟩ = some (.bool (L.keen x)) := hW.cod.being x 2 (by omega) (by omega)
              go_simp
              try with_reducible rfl
            simp only [Act.put, sT, List.set]
            refine tw (i := 2) (d := some 19) (fuel := 36) (v := ?_) rfl rfl ?_ G2d ?_
            rotate_left
            · intro W hW
              have c1 : W.cell? ⟨w.heap.size, 129 + x * 6 + 3, none⟩ = some (.int .i64 (L.room x)) := hW.cod.being x 3 (by omega) (by omega)
              have c2 : W.cell? ⟨w.heap.size, 129 + y * 6 + 3, none⟩ = some (.int .i64 (L.room y)) := hW.cod.being y 3 (by omega) (by omega)
              have c3 : W.cell? ⟨w.heap.size, 129 + x * 6 + 2, none⟩ = some (.bool (L.keen x)) := hW.cod.being x 2 (by omega) (by omega)
              go_simp
              try with_reducible rfl
            simp only [Act.put, sT, List.set]
            refine tw (i := 3) (d := some 20) (fuel := 35) (v := ?_) rfl rfl ?_ G2d ?_
            rotate_left
            · intro W hW
              have c1 : W.cell? ⟨w.heap.size, 129 + x * 6 + 3, none⟩ = some (.int .i64 (L.room x)) := hW.cod.being x 3 (by omega) (by omega)
              have c2 : W.cell? ⟨w.heap.size, 129 + y * 6 + 3, none⟩ = some (.int .i64 (L.room y)) := hW.cod.being y 3 (by omega) (by omega)
              have c3 : W.cell? ⟨w.heap.size, 129 + x * 6 + 2, none⟩ = some (.bool (L.keen x)) := hW.cod.being x 2 (by omega) (by omega)
              go_simp
              try with_reducible rfl
            simp only [Act.put, sT, List.set]
            refine tw (i := 4) (d := some 21) (fuel := 34) (v := ?_) rfl rfl ?_ G2d ?_
            rotate_left
            · intro W hW
              have c1 : W.cell? ⟨w.heap.size, 129 + x * 6 + 3, none⟩ = some (.int .i64 (L.room x)) := hW.cod.being x 3 (by omega) (by omega)
              have c2 : W.cell? ⟨w.heap.size, 129 + y * 6 + 3, none⟩ = some (.int .i64 (L.room y)) := hW.cod.being y 3 (by omega) (by omega)
              have c3 : W.cell? ⟨w.heap.size, 129 + x * 6 + 2, none⟩ = some (.bool (L.keen x)) := hW.cod.being x 2 (by omega) (by omega)
              go_simp
              try with_reducible rfl
            simp only [Act.put, sT, List.set]
            refine tw (i := 5) (d := some 22) (fuel := 33) (v := ?_) rfl rfl ?_ G2d ?_
            rotate_left
            · intro W hW
              have c1 : W.cell? ⟨w.heap.size, 129 + x * 6 + 3, none⟩ = some (.int .i64 (L.room x)) := hW.cod.being x 3 (by omega) (by omega)
              have c2 : W.cell? ⟨w.heap.size, 129 + y * 6 + 3, none⟩ = some (.int .i64 (L.room y)) := hW.cod.being y 3 (by omega) (by omega)
              have c3 : W.cell? ⟨w.heap.size, 129 + x * 6 + 2, none⟩ = some (.bool (L.keen x)) := hW.cod.being x 2 (by omega) (by omega)
              go_simp
              try with_reducible rfl
            simp only [Act.put, sT, List.set]
            refine tw (i := 6) (d := some 23) (fuel := 32) (v := ?_) rfl rfl ?_ G2d ?_
            rotate_left
            · intro W hW
              have c1 : W.cell? ⟨w.heap.size, 129 + x * 6 + 3, none⟩ = some (.int .i64 (L.room x)) := hW.cod.being x 3 (by omega) (by omega)
              have c2 : W.cell? ⟨w.heap.size, 129 + y * 6 + 3, none⟩ = some (.int .i64 (L.room y)) := hW.cod.being y 3 (by omega) (by omega)
              have c3 : W.cell? ⟨w.heap.size, 129 + x * 6 + 2, none⟩ = some (.bool (L.keen x)) := hW.cod.being x 2 (by omega) (by omega)
              go_simp
              try with_reducible rfl
            simp only [Act.put, sT, List.set]
            refine tw (i := 7) (d := some 24) (fuel := 31) (v := ?_) rfl rfl ?_ G2d ?_
            rotate_left
            · intro W hW
              have c1 : W.cell? ⟨w.heap.size, 129 + x * 6 + 3, none⟩ = some (.int .i64 (L.room x)) := hW.cod.being x 3 (by omega) (by omega)
              have c2 : W.cell? ⟨w.heap.size, 129 + y * 6 + 3, none⟩ = some (.int .i64 (L.room y)) := hW.cod.being y 3 (by omega) (by omega)
              have c3 : W.cell? ⟨w.heap.size, 129 + x * 6 + 2, none⟩ = some (.bool (L.keen x)) := hW.cod.being x 2 (by omega) (by omega)
              go_simp
              try with_reducible rfl
            simp only [Act.put, sT, List.set]
            refine tw (i := 8) (d := some 25) (fuel := 30) (v := ?_) rfl rfl ?_ G2d ?_
            rotate_left
            · intro W hW
              have c1 : W.cell? ⟨w.heap.size, 129 + x * 6 + 3, none⟩ = some (.int .i64 (L.room x)) := hW.cod.being x 3 (by omega) (by omega)
              have c2 : W.cell? ⟨w.heap.size, 129 + y * 6 + 3, none⟩ = some (.int .i64 (L.room y)) := hW.cod.being y 3 (by omega) (by omega)
              have c3 : W.cell? ⟨w.heap.size, 129 + x * 6 + 2, none⟩ = some (.bool (L.keen x)) := hW.cod.being x 2 (by omega) (by omega)
              go_simp
              try with_reducible rfl
            simp only [Act.put, sT, List.set]
            refine tw (i := 9) (d := some 26) (fuel := 29) (v := ?_) rfl rfl ?_ G2d ?_
            rotate_left
            · intro W hW
              have c1 : W.cell? ⟨w.heap.size, 129 + x * 6 + 3, none⟩ = some (.int .i64 (L.room x)) := hW.cod.being x 3 (by omega) (by omega)
              have c2 : W.cell? ⟨w.heap.size, 129 + y * 6 + 3, none⟩ = some (.int .i64 (L.room y)) := hW.cod.being y 3 (by omega) (by omega)
              have c3 : W.cell? ⟨w.heap.size, 129 + x * 6 + 2, none⟩ = some (.bool (L.keen x)) := hW.cod.being x 2 (by omega) (by omega)
              go_simp
              try with_reducible rfl
            simp only [Act.put, sT, List.set]
            refine tw (i := 10) (d := some 27) (fuel := 28) (v := ?_) rfl rfl ?_ G2d ?_
            rotate_left
            · intro W hW
              have c1 : W.cell? ⟨w.heap.size, 129 + x * 6 + 3, none⟩ = some (.int .i64 (L.room x)) := hW.cod.being x 3 (by omega) (by omega)
              have c2 : W.cell? ⟨w.heap.size, 129 + y * 6 + 3, none⟩ = some (.int .i64 (L.room y)) := hW.cod.being y 3 (by omega) (by omega)
              have c3 : W.cell? ⟨w.heap.size, 129 + x * 6 + 2, none⟩ = some (.bool (L.keen x)) := hW.cod.being x 2 (by omega) (by omega)
              go_simp
              try with_reducible rfl
            simp only [Act.put, sT, List.set]
            refine tw (i := 11) (d := some 28) (fuel := 27) (v := ?_) rfl rfl ?_ G2d ?_
            rotate_left
            · intro W hW
              have c1 : W.cell? ⟨w.heap.size, 129 + x * 6 + 3, none⟩ = some (.int .i64 (L.room x)) := hW.cod.being x 3 (by omega) (by omega)
              have c2 : W.cell? ⟨w.heap.size, 129 + y * 6 + 3, none⟩ = some (.int .i64 (L.room y)) := hW.cod.being y 3 (by omega) (by omega)
              have c3 : W.cell? ⟨w.heap.size, 129 + x * 6 + 2, none⟩ = some (.bool (L.keen x)) := hW.cod.being x 2 (by omega) (by omega)
              go_simp
              try with_reducible rfl
            simp only [Act.put, sT, List.set]
            refine tw (i := 12) (d := some 29) (fuel := 26) (v := ?_) rfl rfl ?_ G2d ?_
            rotate_left
            · intro W hW
              have c1 : W.cell? ⟨w.heap.size, 129 + x * 6 + 3, none⟩ = some (.int .i64 (L.room x)) := hW.cod.being x 3 (by omega) (by omega)
              have c2 : W.cell? ⟨w.heap.size, 129 + y * 6 + 3, none⟩ = some (.int .i64 (L.room y)) := hW.cod.being y 3 (by omega) (by omega)
              have c3 : W.cell? ⟨w.heap.size, 129 + x * 6 + 2, none⟩ = some (.bool (L.keen x)) := hW.cod.being x 2 (by omega) (by omega)
              go_simp
              try with_reducible rfl
            simp only [Act.put, sT, List.set]
            refine tw (i := 13) (d := some 30) (fuel := 25) (v := ?_) rfl rfl ?_ G2d ?_
            rotate_left
            · intro W hW
              have c1 : W.cell? ⟨w.heap.size, 129 + x * 6 + 3, none⟩ = some (.int .i64 (L.room x)) := hW.cod.being x 3 (by omega) (by omega)
              have c2 : W.cell? ⟨w.heap.size, 129 + y * 6 + 3, none⟩ = some (.int .i64 (L.room y)) := hW.cod.being y 3 (by omega) (by omega)
              have c3 : W.cell? ⟨w.heap.size, 129 + x * 6 + 2, none⟩ = some (.bool (L.keen x)) := hW.cod.being x 2 (by omega) (by omega)
              go_simp
              try with_reducible rfl
            simp only [Act.put, sT, List.set]
            refine tw (i := 14) (d := some 31) (fuel := 24) (v := ?_) rfl rfl ?_ G2d ?_
            rotate_left
            · intro W hW
              have c1 : W.cell? ⟨w.heap.size, 129 + x * 6 + 3, none⟩ = some (.int .i64 (L.room x)) := hW.cod.being x 3 (by omega) (by omega)
              have c2 : W.cell? ⟨w.heap.size, 129 + y * 6 + 3, none⟩ = some (.int .i64 (L.room y)) := hW.cod.being y 3 (by omega) (by omega)
              have c3 : W.cell? ⟨w.heap.size, 129 + x * 6 + 2, none⟩ = some (.bool (L.keen x)) := hW.cod.being x 2 (by omega) (by omega)
              go_simp
              try with_reducible rfl
            simp only [Act.put, sT, List.set]
            refine tw (i := 15) (d := some 32) (fuel := 23) (v := ?_) rfl rfl ?_ G2d ?_
            rotate_left
            · intro W hW
              have c1 : W.cell? ⟨w.heap.size, 129 + x * 6 + 3, none⟩ = some (.int .i64 (L.room x)) := hW.cod.being x 3 (by omega) (by omega)
              have c2 : W.cell? ⟨w.heap.size, 129 + y * 6 + 3, none⟩ = some (.int .i64 (L.room y)) := hW.cod.being y 3 (by omega) (by omega)
              have c3 : W.cell? ⟨w.heap.size, 129 + x * 6 + 2, none⟩ = some (.bool (L.keen x)) := hW.cod.being x 2 (by omega) (by omega)
              go_simp
              try with_reducible rfl
            simp only [Act.put, sT, List.set]
            refine tk (i := 16) (d := some 33) (fuel := 22) (v := .agg L.cells) rfl rfl (Or.inl ⟨by rfl, fun W hW => exec_land (.tmp 3) rfl w.heap.size rfl hW.cod⟩) G2d ?_
            simp only [Act.put, sT, List.set]
            refine tw (i := 17) (d := some 34) (fuel := 21) (v := ?_) rfl rfl ?_ G2d ?_
            rotate_left
            · intro W hW
              have c1 : W.cell? ⟨w.heap.size, 129 + x * 6 + 3, none⟩ = some (.int .i64 (L.room x)) := hW.cod.being x 3 (by omega) (by omega)
              have c2 : W.cell? ⟨w.heap.size, 129 + y * 6 + 3, none⟩ = some (.int .i64 (L.room y)) := hW.cod.being y 3 (by omega) (by omega)
              have c3 : W.cell? ⟨w.heap.size, 129 + x * 6 + 2, none⟩ = some (.bool (L.keen x)) := hW.cod.being x 2 (by omega) (by omega)
              go_simp
              try with_reducible rfl
            simp only [Act.put, sT, List.set]
            refine tw (i := 18) (d := some 35) (fuel := 20) (v := ?_) rfl rfl ?_ G2d ?_
            rotate_left
            · intro W hW
              have c1 : W.cell? ⟨w.heap.size, 129 + x * 6 + 3, none⟩ = some (.int .i64 (L.room x)) := hW.cod.being x 3 (by omega) (by omega)
              have c2 : W.cell? ⟨w.heap.size, 129 + y * 6 + 3, none⟩ = some (.int .i64 (L.room y)) := hW.cod.being y 3 (by omega) (by omega)
              have c3 : W.cell? ⟨w.heap.size, 129 + x * 6 + 2, none⟩ = some (.bool (L.keen x)) := hW.cod.being x 2 (by omega) (by omega)
              go_simp
              try with_reducible rfl
            simp only [Act.put, sT, List.set]
            refine tw (i := 19) (d := some 36) (fuel := 19) (v := ?_) rfl rfl ?_ G2d ?_
            rotate_left
            · intro W hW
              have c1 : W.cell? ⟨w.heap.size, 129 + x * 6 + 3, none⟩ = some (.int .i64 (L.room x)) := hW.cod.being x 3 (by omega) (by omega)
              have c2 : W.cell? ⟨w.heap.size, 129 + y * 6 + 3, none⟩ = some (.int .i64 (L.room y)) := hW.cod.being y 3 (by omega) (by omega)
              have c3 : W.cell? ⟨w.heap.size, 129 + x * 6 + 2, none⟩ = some (.bool (L.keen x)) := hW.cod.being x 2 (by omega) (by omega)
              go_simp
              try with_reducible rfl
            simp only [Act.put, sT, List.set]
            refine tw (i := 20) (d := some 37) (fuel := 18) (v := ?_) rfl rfl ?_ G2d ?_
            rotate_left
            · intro W hW
              have c1 : W.cell? ⟨w.heap.size, 129 + x * 6 + 3, none⟩ = some (.int .i64 (L.room x)) := hW.cod.being x 3 (by omega) (by omega)
              have c2 : W.cell? ⟨w.heap.size, 129 + y * 6 + 3, none⟩ = some (.int .i64 (L.room y)) := hW.cod.being y 3 (by omega) (by omega)
              have c3 : W.cell? ⟨w.heap.size, 129 + x * 6 + 2, none⟩ = some (.bool (L.keen x)) := hW.cod.being x 2 (by omega) (by omega)
              go_simp
              try with_reducible rfl
            simp only [Act.put, sT, List.set]
            refine tw (i := 21) (d := some 38) (fuel := 17) (v := ?_) rfl rfl ?_ G2d ?_
            rotate_left
            · intro W hW
              have c1 : W.cell? ⟨w.heap.size, 129 + x * 6 + 3, none⟩ = some (.int .i64 (L.room x)) := hW.cod.being x 3 (by omega) (by omega)
              have c2 : W.cell? ⟨w.heap.size, 129 + y * 6 + 3, none⟩ = some (.int .i64 (L.room y)) := hW.cod.being y 3 (by omega) (by omega)
              have c3 : W.cell? ⟨w.heap.size, 129 + x * 6 + 2, none⟩ = some (.bool (L.keen x)) := hW.cod.being x 2 (by omega) (by omega)
              go_simp
              try with_reducible rfl
            simp only [Act.put, sT, List.set]
            refine wpAnyH_all (fuel := 16) (rs := [22]) (by kernel_rfl) (by simp) ?_
            intro i hi
            obtain rfl : i = 22 := by simpa using hi
            clear hi
            refine call_at (d := some 39) rfl rfl (by rfl) 48 #[.agg L.cells, .int .i64 (L.room y)] (by kernel_rfl) ?_
            refine (isbright_any L (L.room y) _).mono ?_
            rintro e x1 ⟨rfl, hb⟩
            have S1 := G2d.call hb
            clear hb
            rw [hbr]
            refine ⟨_, rfl, S1, ?_⟩
            simp only [Act.put, sT, List.set]
            refine tw (i := 23) (d := some 40) (fuel := 15) (v := ?_) rfl rfl ?_ S1 ?_
            rotate_left
            · intro W hW
              have c1 : W.cell? ⟨w.heap.size, 129 + x * 6 + 3, none⟩ = some (.int .i64 (L.room x)) := hW.cod.being x 3 (by omega) (by omega)
              have c2 : W.cell? ⟨w.heap.size, 129 + y * 6 + 3, none⟩ = some (.int .i64 (L.room y)) := hW.cod.being y 3 (by omega) (by omega)
              have c3 : W.cell? ⟨w.heap.size, 129 + x * 6 + 2, none⟩ = some (.bool (L.keen x)) := hW.cod.being x 2 (by omega) (by omega)
              go_simp
              try with_reducible rfl
            simp only [Act.put, sT, List.set]
            refine tw (i := 24) (d := some 41) (fuel := 14) (v := ?_) rfl rfl ?_ S1 ?_
            rotate_left
            · intro W hW
              have c1 : W.cell? ⟨w.heap.size, 129 + x * 6 + 3, none⟩ = some (.int .i64 (L.room x)) := hW.cod.being x 3 (by omega) (by omega)
              have c2 : W.cell? ⟨w.heap.size, 129 + y * 6 + 3, none⟩ = some (.int .i64 (L.room y)) := hW.cod.being y 3 (by omega) (by omega)
              have c3 : W.cell? ⟨w.heap.size, 129 + x * 6 + 2, none⟩ = some (.bool (L.keen x)) := hW.cod.being x 2 (by omega) (by omega)
              go_simp
              try with_reducible rfl
            simp only [Act.put, sT, List.set]
            refine tk (i := 25) (d := some 42) (fuel := 13) (v := undef) rfl rfl (Or.inr ⟨by rfl, rfl⟩) S1 ?_
            simp only [Act.put, sT, List.set]
            refine tk (i := 26) (d := some 43) (fuel := 12) (v := undef) rfl rfl (Or.inr ⟨by rfl, rfl⟩) S1 ?_
            simp only [Act.put, sT, List.set]
            refine tk (i := 27) (d := some 44) (fuel := 11) (v := undef) rfl rfl (Or.inr ⟨by rfl, rfl⟩) S1 ?_
            simp only [Act.put, sT, List.set]
            refine tk (i := 28) (d := some 45) (fuel := 10) (v := undef) rfl rfl (Or.inr ⟨by rfl, rfl⟩) S1 ?_
            simp only [Act.put, sT, List.set]
            refine tk (i := 29) (d := some 46) (fuel := 9) (v := undef) rfl rfl (Or.inr ⟨by rfl, rfl⟩) S1 ?_
            simp only [Act.put, sT, List.set]
            refine tk (i := 30) (d := some 47) (fuel := 8) (v := undef) rfl rfl (Or.inr ⟨by rfl, rfl⟩) S1 ?_
            simp only [Act.put, sT, List.set]
            refine tk (i := 31) (d := some 48) (fuel := 7) (v := undef) rfl rfl (Or.inr ⟨by rfl, rfl⟩) S1 ?_
            simp only [Act.put, sT, List.set]
            refine tk (i := 32) (d := some 49) (fuel := 6) (v := undef) rfl rfl (Or.inr ⟨by rfl, rfl⟩) S1 ?_
            simp only [Act.put, sT, List.set]
            refine tk (i := 33) (d := some 50) (fuel := 5) (v := undef) rfl rfl (Or.inr ⟨by rfl, rfl⟩) S1 ?_
            simp only [Act.put, sT, List.set]
            refine tk (i := 34) (d := some 51) (fuel := 4) (v := undef) rfl rfl (Or.inr ⟨by rfl, rfl⟩) S1 ?_
            simp only [Act.put, sT, List.set]
            refine tk (i := 35) (d := some 52) (fuel := 3) (v := undef) rfl rfl (Or.inr ⟨by rfl, rfl⟩) S1 ?_
            simp only [Act.put, sT, List.set]
            refine tw (i := 36) (d := some 53) (fuel := 2) (v := ?_) rfl rfl ?_ S1 ?_
            rotate_left
            · intro W hW
              have c1 : W.cell? ⟨w.heap.size, 129 + x * 6 + 3, none⟩ = some (.int .i64 (L.room x)) := hW.cod.being x 3 (by omega) (by omega)
              have c2 : W.cell? ⟨w.heap.size, 129 + y * 6 + 3, none⟩ = some (.int .i64 (L.room y)) := hW.cod.being y 3 (by omega) (by omega)
              have c3 : W.cell? ⟨w.heap.size, 129 + x * 6 + 2, none⟩ = some (.bool (L.keen x)) := hW.cod.being x 2 (by omega) (by omega)
              go_simp
              try with_reducible rfl
            simp only [Act.put, sT, List.set]
            refine tw (i := 37) (d := some 54) (fuel := 1) (v := ?_) rfl rfl ?_ S1 ?_
            rotate_left
            · intro W hW
              have c1 : W.cell? ⟨w.heap.size, 129 + x * 6 + 3, none⟩ = some (.int .i64 (L.room x)) := hW.cod.being x 3 (by omega) (by omega)
              have c2 : W.cell? ⟨w.heap.size, 129 + y * 6 + 3, none⟩ = some (.int .i64 (L.room y)) := hW.cod.being y 3 (by omega) (by omega)
              have c3 : W.cell? ⟨w.heap.size, 129 + x * 6 + 2, none⟩ = some (.bool (L.keen x)) := hW.cod.being x 2 (by omega) (by omega)
              go_simp
              try with_reducible rfl
            simp only [Act.put, sT, List.set]
            refine tw (i := 38) (d := some 6) (fuel := 0) (v := ?_) rfl rfl ?_ S1 ?_
            rotate_left
            · intro W hW
              have c1 : W.cell? ⟨w.heap.size, 129 + x * 6 + 3, none⟩ = some (.int .i64 (L.room x)) := hW.cod.being x 3 (by omega) (by omega)
              have c2 : W.cell? ⟨w.heap.size, 129 + y * 6 + 3, none⟩ = some (.int .i64 (L.room y)) := hW.cod.being y 3 (by omega) (by omega)
              have c3 : W.cell? ⟨w.heap.size, 129 + x * 6 + 2, none⟩ = some (.bool (L.keen x)) := hW.cod.being x 2 (by omega) (by omega)
              go_simp
              try with_reducible rfl
            simp only [Act.put, sT, List.set]
            refine wpAnyH_done (by kernel_rfl) ?_ _
            go_wp2
            go_ret
            exact ⟨ret_bool HN.out.symm, S1.low⟩
          | true =>
            cases hhi : hiddenL L (y : Int) with
            | false =>
              have HN := hide (show seesL L (x : Int) (y : Int) = true by rw [HV2.out, hbr, hhi]; rfl)
              go_enter Tryz.func50, Tryz.ntmps50
              go_wp2_with (refine wl_land (.tmp 3) rfl rfl _ L rfl (cod_new w L) ?_)
              refine (about_any L (x : Int) _).mono ?_
              rintro e w1 ⟨rfl, hb⟩
              have G1 := hide ((gd_start L w).call hb)
              rw [HA.out]
              clear hb
              go_wp2_with (refine wl_land (.tmp 3) rfl rfl _ L rfl G1.out.cod ?_)
              refine (about_any L (y : Int) _).mono ?_
              rintro e w2 ⟨rfl, hb⟩
              have G2 := hide (G1.out.call hb)
              rw [HB.out]
              clear hb
              have G2d : GdRel L w w2.drew := G2.out.drew
              go_wp2_with fail
              refine wp_region_held (S := fun W => GdRel L w W) (by kernel_rfl) ?_
              refine tw (i := 0) (d := some 17) (fuel := 38) (v := ?_) rfl rfl ?_ G2d ?_
              rotate_left
              · intro W hW
                have c1 : W.cell? ⟨w.heap.size, 129 + x * 6 + 3, none⟩ = some (.int .i64 (L.room x)) := hW.cod.being x 3 (by omega) (by omega)
                have c2 : W.cell? ⟨w.heap.size, 129 + y * 6 + 3, none⟩ = some (.int .i64 (L.room y)) := hW.cod.being y 3 (by omega) (by omega)
                have c3 : W.cell? ⟨w.heap.size, 129 + x * 6 + 2, none⟩ = some (.bool (L.keen x)) := hW.cod.being x 2 (by omega) (by omega)
                go_simp
                try with_reducible rfl
              simp only [Act.put, sT, List.set]
              refine tw (i := 1) (d := some 18) (fuel := 37) (v := ?_) rfl rfl ?_ G2d ?_
              rotate_left
              · intro W hW
                have c1 : W.cell? ⟨w.heap.size, 129 + x * 6 + 3, none⟩ = some (.int .i64 (L.room x)) := hW.cod.being x 3 (by omega) (by omega)
                have c2 : W.cell? ⟨w.heap.size, 129 + y * 6 + 3, none⟩ = some (.int .i64 (L.room y)) := hW.cod.being y 3 (by omega) (by omega)
                have c3 : W.cell? ⟨w.heap.size, 129 + x * 6 + 2, none⟩ = some (.bool (L.keen x)) := hW.cod.being x 2 (by omega) (by omega)
                go_simp
                try with_reducible rfl
              simp only [Act.put, sT, List.set]
              refine tw (i := 2) (d := some 19) (fuel := 36) (v := ?_) rfl rfl ?_ G2d ?_
              rotate_left
              · intro W hW
                have c1 : W.cell? ⟨w.heap.size, 129 + x * 6 + 3, none⟩ = some (.int .i64 (L.room x)) := hW.cod.being x 3 (by omega) (by omega)
                have c2 : W.cell? ⟨w.heap.size, 129 + y * 6 + 3, none⟩ = some (.int .i64 (L.room y)) := hW.cod.being y 3 (by omega) (by omega)
                have c3 : W.cell? ⟨w.heap.size, 129 + x * 6 + 2, none⟩ = some (.bool (L.keen x)) := hW.cod.being x 2 (by omega) (by omega)
                go_simp
                try with_reducible rfl
              simp only [Act.put, sT, List.set]
              refine tw (i := 3) (d := some 20) (fuel := 35) (v := ?_) rfl rfl ?_ G2d ?_
              rotate_left
              · intro W hW
                have c1 : W.cell? ⟨w.heap.size, 129 + x * 6 + 3, none⟩ = some (.int .i64 (L.room x)) := hW.cod.being x 3 (by omega) (by omega)
                have c2 : W.cell? ⟨w.heap.size, 129 + y * 6 + 3, none⟩ = some (.int .i64 (L.room y)) := hW.cod.being y 3 (by omega) (by omega)
                have c3 : W.cell? ⟨w.heap.size, 129 + x * 6 + 2, none⟩ = some (.bool (L.keen x)) := hW.cod.being x 2 (by omega) (by omega)
                go_simp
                try with_reducible rfl
              simp only [Act.put, sT, List.set]
              refine tw (i := 4) (d := some 21) (fuel := 34) (v := ?_) rfl rfl ?_ G2d ?_
              rotate_left
              · intro W hW
                have c1 : W.cell? ⟨w.heap.size, 129 + x * 6 + 3, none⟩ = some (.int .i64 (L.room x)) := hW.cod.being x 3 (by omega) (by omega)
                have c2 : W.cell? ⟨w.heap.size, 129 + y * 6 + 3, none⟩ = some (.int .i64 (L.room y)) := hW.cod.being y 3 (by omega) (by omega)
                have c3 : W.cell? ⟨w.heap.size, 129 + x * 6 + 2, none⟩ = some (.bool (L.keen x)) := hW.cod.being x 2 (by omega) (by omega)
                go_simp
                try with_reducible rfl
              simp only [Act.put, sT, List.set]
              refine tw (i := 5) (d := some 22) (fuel := 33) (v := ?_) rfl rfl ?_ G2d ?_
              rotate_left
              · intro W hW
                have c1 : W.cell? ⟨w.heap.size, 129 + x * 6 + 3, none⟩ = some (.int .i64 (L.room x)) := hW.cod.being x 3 (by omega) (by omega)
                have c2 : W.cell? ⟨w.heap.size, 129 + y * 6 + 3, none⟩ = some (.int .i64 (L.room y)) := hW.cod.being y 3 (by omega) (by omega)
                have c3 : W.cell? ⟨w.heap.size, 129 + x * 6 + 2, none⟩ = some (.bool (L.keen x)) := hW.cod.being x 2 (by omega) (by omega)
                go_simp
                try with_reducible rfl
              simp only [Act.put, sT, List.set]
              refine tw (i := 6) (d := some 23) (fuel := 32) (v := ?_) rfl rfl ?_ G2d ?_
              rotate_left
              · intro W hW
                have c1 : W.cell? ⟨w.heap.size, 129 + x * 6 + 3, none⟩ = some (.int .i64 (L.room x)) := hW.cod.being x 3 (by omega) (by omega)
                have c2 : W.cell? ⟨w.heap.size, 129 + y * 6 + 3, none⟩ = some (.int .i64 (L.room y)) := hW.cod.being y 3 (by omega) (by omega)
                have c3 : W.cell? ⟨w.heap.size, 129 + x * 6 + 2, none⟩ = some (.bool (L.keen x)) := hW.cod.being x 2 (by omega) (by omega)
                go_simp
                try with_reducible rfl
              simp only [Act.put, sT, List.set]
              refine tw (i := 7) (d := some 24) (fuel := 31) (v := ?_) rfl rfl ?_ G2d ?_
              rotate_left
              · intro W hW
                have c1 : W.cell? ⟨w.heap.size, 129 + x * 6 + 3, none⟩ = some (.int .i64 (L.room x)) := hW.cod.being x 3 (by omega) (by omega)
                have c2 : W.cell? ⟨w.heap.size, 129 + y * 6 + 3, none⟩ = some (.int .i64 (L.room y)) := hW.cod.being y 3 (by omega) (by omega)
                have c3 : W.cell? ⟨w.heap.size, 129 + x * 6 + 2, none⟩ = some (.bool (L.keen x)) := hW.cod.being x 2 (by omega) (by omega)
                go_simp
                try with_reducible rfl
              simp only [Act.put, sT, List.set]
              refine tw (i := 8) (d := some 25) (fuel := 30) (v := ?_) rfl rfl ?_ G2d ?_
              rotate_left
              · intro W hW
                have c1 : W.cell? ⟨w.heap.size, 129 + x * 6 + 3, none⟩ = some (.int .i64 (L.room x)) := hW.cod.being x 3 (by omega) (by omega)
                have c2 : W.cell? ⟨w.heap.size, 129 + y * 6 + 3, none⟩ = some (.int .i64 (L.room y)) := hW.cod.being y 3 (by omega) (by omega)
                have c3 : W.cell? ⟨w.heap.size, 129 + x * 6 + 2, none⟩ = some (.bool (L.keen x)) := hW.cod.being x 2 (by omega) (by omega)
                go_simp
                try with_reducible rfl
              simp only [Act.put, sT, List.set]
              refine tw (i := 9) (d := some 26) (fuel := 29) (v := ?_) rfl rfl ?_ G2d ?_
              rotate_left
              · intro W hW
                have c1 : W.cell? ⟨w.heap.size, 129 + x * 6 + 3, none⟩ = some (.int .i64 (L.room x)) := hW.cod.being x 3 (by omega) (by omega)
                have c2 : W.cell? ⟨w.heap.size, 129 + y * 6 + 3, none⟩ = some (.int .i64 (L.room y)) := hW.cod.being y 3 (by omega) (by omega)
                have c3 : W.cell? ⟨w.heap.size, 129 + x * 6 + 2, none⟩ = some (.bool (L.keen x)) := hW.cod.being x 2 (by omega) (by omega)
                go_simp
                try with_reducible rfl
              simp only [Act.put, sT, List.set]
              refine tw (i := 10) (d := some 27) (fuel := 28) (v := ?_) rfl rfl ?_ G2d ?_
              rotate_left
              · intro W hW
                have c1 : W.cell? ⟨w.heap.size, 129 + x * 6 + 3, none⟩ = some (.int .i64 (L.room x)) := hW.cod.being x 3 (by omega) (by omega)
                have c2 : W.cell? ⟨w.heap.size, 129 + y * 6 + 3, none⟩ = some (.int .i64 (L.room y)) := hW.cod.being y 3 (by omega) (by omega)
                have c3 : W.cell? ⟨w.heap.size, 129 + x * 6 + 2, none⟩ = some (.bool (L.keen x)) := hW.cod.being x 2 (by omega) (by omega)
                go_simp
                try with_reducible rfl
              simp only [Act.put, sT, List.set]
              refine tw (i := 11) (d := some 28) (fuel := 27) (v := ?_) rfl rfl ?_ G2d ?_
              rotate_left
              · intro W hW
                have c1 : W.cell? ⟨w.heap.size, 129 + x * 6 + 3, none⟩ = some (.int .i64 (L.room x)) := hW.cod.being x 3 (by omega) (by omega)
                have c2 : W.cell? ⟨w.heap.size, 129 + y * 6 + 3, none⟩ = some (.int .i64 (L.room y)) := hW.cod.being y 3 (by omega) (by omega)
                have c3 : W.cell? ⟨w.heap.size, 129 + x * 6 + 2, none⟩ = some (.bool (L.keen x)) := hW.cod.being x 2 (by omega) (by omega)
                go_simp
                try with_reducible rfl
              simp only [Act.put, sT, List.set]
              refine tw (i := 12) (d := some 29) (fuel := 26) (v := ?_) rfl rfl ?_ G2d ?_
              rotate_left
              · intro W hW
                have c1 : W.cell? ⟨w.heap.size, 129 + x * 6 + 3, none⟩ = some (.int .i64 (L.room x)) := hW.cod.being x 3 (by omega) (by omega)
                have c2 : W.cell? ⟨w.heap.size, 129 + y * 6 + 3, none⟩ = some (.int .i64 (L.room y)) := hW.cod.being y 3 (by omega) (by omega)
                have c3 : W.cell? ⟨w.heap.size, 129 + x * 6 + 2, none⟩ = some (.bool (L.keen x)) := hW.cod.being x 2 (by omega) (by omega)
                go_simp
                try with_reducible rfl
              simp only [Act.put, sT, List.set]
              refine tw (i := 13) (d := some 30) (fuel := 25) (v := ?_) rfl rfl ?_ G2d ?_
              rotate_left
              · intro W hW
                have c1 : W.cell? ⟨w.heap.size, 129 + x * 6 + 3, none⟩ = some (.int .i64 (L.room x)) := hW.cod.being x 3 (by omega) (by omega)
                have c2 : W.cell? ⟨w.heap.size, 129 + y * 6 + 3, none⟩ = some (.int .i64 (L.room y)) := hW.cod.being y 3 (by omega) (by omega)
                have c3 : W.cell? ⟨w.heap.size, 129 + x * 6 + 2, none⟩ = some (.bool (L.keen x)) := hW.cod.being x 2 (by omega) (by omega)
                go_simp
                try with_reducible rfl
              simp only [Act.put, sT, List.set]
              refine tw (i := 14) (d := some 31) (fuel := 24) (v := ?_) rfl rfl ?_ G2d ?_
              rotate_left
              · intro W hW
                have c1 : W.cell? ⟨w.heap.size, 129 + x * 6 + 3, none⟩ = some (.int .i64 (L.room x)) := hW.cod.being x 3 (by omega) (by omega)
                have c2 : W.cell? ⟨w.heap.size, 129 + y * 6 + 3, none⟩ = some (.int .i64 (L.room y)) := hW.cod.being y 3 (by omega) (by omega)
                have c3 : W.cell? ⟨w.heap.size, 129 + x * 6 + 2, none⟩ = some (.bool (L.keen x)) := hW.cod.being x 2 (by omega) (by omega)
                go_simp
                try with_reducible rfl
              simp only [Act.put, sT, List.set]
              refine tw (i := 15) (d := some 32) (fuel := 23) (v := ?_) rfl rfl ?_ G2d ?_
              rotate_left
              · intro W hW
                have c1 : W.cell? ⟨w.heap.size, 129 + x * 6 + 3, none⟩ = some (.int .i64 (L.room x)) := hW.cod.being x 3 (by omega) (by omega)
                have c2 : W.cell? ⟨w.heap.size, 129 + y * 6 + 3, none⟩ = some (.int .i64 (L.room y)) := hW.cod.being y 3 (by omega) (by omega)
                have c3 : W.cell? ⟨w.heap.size, 129 + x * 6 + 2, none⟩ = some (.bool (L.keen x)) := hW.cod.being x 2 (by omega) (by omega)
                go_simp
                try with_reducible rfl
              simp only [Act.put, sT, List.set]
              refine tk (i := 16) (d := some 33) (fuel := 22) (v := .agg L.cells) rfl rfl (Or.inl ⟨by rfl, fun W hW => exec_land (.tmp 3) rfl w.heap.size rfl hW.cod⟩) G2d ?_
              simp only [Act.put, sT, List.set]
              refine tw (i := 17) (d := some 34) (fuel := 21) (v := ?_) rfl rfl ?_ G2d ?_
              rotate_left
              · intro W hW
                have c1 : W.cell? ⟨w.heap.size, 129 + x * 6 + 3, none⟩ = some (.int .i64 (L.room x)) := hW.cod.being x 3 (by omega) (by omega)
                have c2 : W.cell? ⟨w.heap.size, 129 + y * 6 + 3, none⟩ = some (.int .i64 (L.room y)) := hW.cod.being y 3 (by omega) (by omega)
                have c3 : W.cell? ⟨w.heap.size, 129 + x * 6 + 2, none⟩ = some (.bool (L.keen x)) := hW.cod.being x 2 (by omega) (by omega)
                go_simp
                try with_reducible rfl
              simp only [Act.put, sT, List.set]
              refine tw (i := 18) (d := some 35) (fuel := 20) (v := ?_) rfl rfl ?_ G2d ?_
              rotate_left
              · intro W hW
                have c1 : W.cell? ⟨w.heap.size, 129 + x * 6 + 3, none⟩ = some (.int .i64 (L.room x)) := hW.cod.being x 3 (by omega) (by omega)
                have c2 : W.cell? ⟨w.heap.size, 129 + y * 6 + 3, none⟩ = some (.int .i64 (L.room y)) := hW.cod.being y 3 (by omega) (by omega)
                have c3 : W.cell? ⟨w.heap.size, 129 + x * 6 + 2, none⟩ = some (.bool (L.keen x)) := hW.cod.being x 2 (by omega) (by omega)
                go_simp
                try with_reducible rfl
              simp only [Act.put, sT, List.set]
              refine tw (i := 19) (d := some 36) (fuel := 19) (v := ?_) rfl rfl ?_ G2d ?_
              rotate_left
              · intro W hW
                have c1 : W.cell? ⟨w.heap.size, 129 + x * 6 + 3, none⟩ = some (.int .i64 (L.room x)) := hW.cod.being x 3 (by omega) (by omega)
                have c2 : W.cell? ⟨w.heap.size, 129 + y * 6 + 3, none⟩ = some (.int .i64 (L.room y)) := hW.cod.being y 3 (by omega) (by omega)
                have c3 : W.cell? ⟨w.heap.size, 129 + x * 6 + 2, none⟩ = some (.bool (L.keen x)) := hW.cod.being x 2 (by omega) (by omega)
                go_simp
                try with_reducible rfl
              simp only [Act.put, sT, List.set]
              refine tw (i := 20) (d := some 37) (fuel := 18) (v := ?_) rfl rfl ?_ G2d ?_
              rotate_left
              · intro W hW
                have c1 : W.cell? ⟨w.heap.size, 129 + x * 6 + 3, none⟩ = some (.int .i64 (L.room x)) := hW.cod.being x 3 (by omega) (by omega)
                have c2 : W.cell? ⟨w.heap.size, 129 + y * 6 + 3, none⟩ = some (.int .i64 (L.room y)) := hW.cod.being y 3 (by omega) (by omega)
                have c3 : W.cell? ⟨w.heap.size, 129 + x * 6 + 2, none⟩ = some (.bool (L.keen x)) := hW.cod.being x 2 (by omega) (by omega)
                go_simp
                try with_reducible rfl
              simp only [Act.put, sT, List.set]
              refine tw (i := 21) (d := some 38) (fuel := 17) (v := ?_) rfl rfl ?_ G2d ?_
              rotate_left
              · intro W hW
                have c1 : W.cell? ⟨w.heap.size, 129 + x * 6 + 3, none⟩ = some (.int .i64 (L.room x)) := hW.cod.being x 3 (by omega) (by omega)
                have c2 : W.cell? ⟨w.heap.size, 129 + y * 6 + 3, none⟩ = some (.int .i64 (L.room y)) := hW.cod.being y 3 (by omega) (by omega)
                have c3 : W.cell? ⟨w.heap.size, 129 + x * 6 + 2, none⟩ = some (.bool (L.keen x)) := hW.cod.being x 2 (by omega) (by omega)
                go_simp
                try with_reducible rfl
              simp only [Act.put, sT, List.set]
              refine wpAnyH_all (fuel := 16) (rs := [22]) (by kernel_rfl) (by simp) ?_
              intro i hi
              obtain rfl : i = 22 := by simpa using hi
              clear hi
              refine call_at (d := some 39) rfl rfl (by rfl) 48 #[.agg L.cells, .int .i64 (L.room y)] (by kernel_rfl) ?_
              refine (isbright_any L (L.room y) _).mono ?_
              rintro e x1 ⟨rfl, hb⟩
              have S1 := G2d.call hb
              clear hb
              rw [hbr]
              refine ⟨_, rfl, S1, ?_⟩
              simp only [Act.put, sT, List.set]
              refine tw (i := 23) (d := some 40) (fuel := 15) (v := ?_) rfl rfl ?_ S1 ?_
              rotate_left
              · intro W hW
                have c1 : W.cell? ⟨w.heap.size, 129 + x * 6 + 3, none⟩ = some (.int .i64 (L.room x)) := hW.cod.being x 3 (by omega) (by omega)
                have c2 : W.cell? ⟨w.heap.size, 129 + y * 6 + 3, none⟩ = some (.int .i64 (L.room y)) := hW.cod.being y 3 (by omega) (by omega)
                have c3 : W.cell? ⟨w.heap.size, 129 + x * 6 + 2, none⟩ = some (.bool (L.keen x)) := hW.cod.being x 2 (by omega) (by omega)
                go_simp
                try with_reducible rfl
              simp only [Act.put, sT, List.set]
              refine tw (i := 24) (d := some 41) (fuel := 14) (v := ?_) rfl rfl ?_ S1 ?_
              rotate_left
              · intro W hW
                have c1 : W.cell? ⟨w.heap.size, 129 + x * 6 + 3, none⟩ = some (.int .i64 (L.room x)) := hW.cod.being x 3 (by omega) (by omega)
                have c2 : W.cell? ⟨w.heap.size, 129 + y * 6 + 3, none⟩ = some (.int .i64 (L.room y)) := hW.cod.being y 3 (by omega) (by omega)
                have c3 : W.cell? ⟨w.heap.size, 129 + x * 6 + 2, none⟩ = some (.bool (L.keen x)) := hW.cod.being x 2 (by omega) (by omega)
                go_simp
                try with_reducible rfl
              simp only [Act.put, sT, List.set]
              refine tk (i := 25) (d := some 42) (fuel := 13) (v := .agg L.cells) rfl rfl (Or.inl ⟨by rfl, fun W hW => exec_land (.tmp 3) rfl w.heap.size rfl hW.cod⟩) S1 ?_
              simp only [Act.put, sT, List.set]
              refine tw (i := 26) (d := some 43) (fuel := 12) (v := ?_) rfl rfl ?_ S1 ?_
              rotate_left
              · intro W hW
                have c1 : W.cell? ⟨w.heap.size, 129 + x * 6 + 3, none⟩ = some (.int .i64 (L.room x)) := hW.cod.being x 3 (by omega) (by omega)
                have c2 : W.cell? ⟨w.heap.size, 129 + y * 6 + 3, none⟩ = some (.int .i64 (L.room y)) := hW.cod.being y 3 (by omega) (by omega)
                have c3 : W.cell? ⟨w.heap.size, 129 + x * 6 + 2, none⟩ = some (.bool (L.keen x)) := hW.cod.being x 2 (by omega) (by omega)
                go_simp
                try with_reducible rfl
              simp only [Act.put, sT, List.set]
              refine wpAnyH_all (fuel := 11) (rs := [27]) (by kernel_rfl) (by simp) ?_
              intro i hi
              obtain rfl : i = 27 := by simpa using hi
              clear hi
              refine call_at (d := some 44) rfl rfl (by rfl) 80 #[.agg L.cells, .int .i64 (y : Int)] (by kernel_rfl) ?_
              refine (ishidden_any L (y : Int) _).mono ?_
              rintro e x2 ⟨rfl, hb⟩
              have S2 := S1.call hb
              clear hb
              rw [hhi]
              refine ⟨_, rfl, S2, ?_⟩
              simp only [Act.put, sT, List.set]
              refine tw (i := 28) (d := some 45) (fuel := 10) (v := ?_) rfl rfl ?_ S2 ?_
              rotate_left
              · intro W hW
                have c1 : W.cell? ⟨w.heap.size, 129 + x * 6 + 3, none⟩ = some (.int .i64 (L.room x)) := hW.cod.being x 3 (by omega) (by omega)
                have c2 : W.cell? ⟨w.heap.size, 129 + y * 6 + 3, none⟩ = some (.int .i64 (L.room y)) := hW.cod.being y 3 (by omega) (by omega)
                have c3 : W.cell? ⟨w.heap.size, 129 + x * 6 + 2, none⟩ = some (.bool (L.keen x)) := hW.cod.being x 2 (by omega) (by omega)
                go_simp
                try with_reducible rfl
              simp only [Act.put, sT, List.set]
              refine tw (i := 29) (d := some 46) (fuel := 9) (v := ?_) rfl rfl ?_ S2 ?_
              rotate_left
              · intro W hW
                have c1 : W.cell? ⟨w.heap.size, 129 + x * 6 + 3, none⟩ = some (.int .i64 (L.room x)) := hW.cod.being x 3 (by omega) (by omega)
                have c2 : W.cell? ⟨w.heap.size, 129 + y * 6 + 3, none⟩ = some (.int .i64 (L.room y)) := hW.cod.being y 3 (by omega) (by omega)
                have c3 : W.cell? ⟨w.heap.size, 129 + x * 6 + 2, none⟩ = some (.bool (L.keen x)) := hW.cod.being x 2 (by omega) (by omega)
                go_simp
                try with_reducible rfl
              simp only [Act.put, sT, List.set]
              refine tk (i := 30) (d := some 47) (fuel := 8) (v := undef) rfl rfl (Or.inr ⟨by rfl, rfl⟩) S2 ?_
              simp only [Act.put, sT, List.set]
              refine tk (i := 31) (d := some 48) (fuel := 7) (v := undef) rfl rfl (Or.inr ⟨by rfl, rfl⟩) S2 ?_
              simp only [Act.put, sT, List.set]
              refine tk (i := 32) (d := some 49) (fuel := 6) (v := undef) rfl rfl (Or.inr ⟨by rfl, rfl⟩) S2 ?_
              simp only [Act.put, sT, List.set]
              refine tk (i := 33) (d := some 50) (fuel := 5) (v := undef) rfl rfl (Or.inr ⟨by rfl, rfl⟩) S2 ?_
              simp only [Act.put, sT, List.set]
              refine tk (i := 34) (d := some 51) (fuel := 4) (v := undef) rfl rfl (Or.inr ⟨by rfl, rfl⟩) S2 ?_
              simp only [Act.put, sT, List.set]
              refine tw (i := 35) (d := some 52) (fuel := 3) (v := ?_) rfl rfl ?_ S2 ?_
              rotate_left
              · intro W hW
                have c1 : W.cell? ⟨w.heap.size, 129 + x * 6 + 3, none⟩ = some (.int .i64 (L.room x)) := hW.cod.being x 3 (by omega) (by omega)
                have c2 : W.cell? ⟨w.heap.size, 129 + y * 6 + 3, none⟩ = some (.int .i64 (L.room y)) := hW.cod.being y 3 (by omega) (by omega)
                have c3 : W.cell? ⟨w.heap.size, 129 + x * 6 + 2, none⟩ = some (.bool (L.keen x)) := hW.cod.being x 2 (by omega) (by omega)
                go_simp
                try with_reducible rfl
              simp only [Act.put, sT, List.set]
              refine tw (i := 36) (d := some 53) (fuel := 2) (v := ?_) rfl rfl ?_ S2 ?_
              rotate_left
              · intro W hW
                have c1 : W.cell? ⟨w.heap.size, 129 + x * 6 + 3, none⟩ = some (.int .i64 (L.room x)) := hW.cod.being x 3 (by omega) (by omega)
                have c2 : W.cell? ⟨w.heap.size, 129 + y * 6 + 3, none⟩ = some (.int .i64 (L.room y)) := hW.cod.being y 3 (by omega) (by omega)
                have c3 : W.cell? ⟨w.heap.size, 129 + x * 6 + 2, none⟩ = some (.bool (L.keen x)) := hW.cod.being x 2 (by omega) (by omega)
                go_simp
                try with_reducible rfl
              simp only [Act.put, sT, List.set]
              refine tw (i := 37) (d := some 54) (fuel := 1) (v := ?_) rfl rfl ?_ S2 ?_
              rotate_left
              · intro W hW
                have c1 : W.cell? ⟨w.heap.size, 129 + x * 6 + 3, none⟩ = some (.int .i64 (L.room x)) := hW.cod.being x 3 (by omega) (by omega)
                have c2 : W.cell? ⟨w.heap.size, 129 + y * 6 + 3, none⟩ = some (.int .i64 (L.room y)) := hW.cod.being y 3 (by omega) (by omega)
                have c3 : W.cell? ⟨w.heap.size, 129 + x * 6 + 2, none⟩ = some (.bool (L.keen x)) := hW.cod.being x 2 (by omega) (by omega)
                go_simp
                try with_reducible rfl
              simp only [Act.put, sT, List.set]
              refine tw (i := 38) (d := some 6) (fuel := 0) (v := ?_) rfl rfl ?_ S2 ?_
              rotate_left
              · intro W hW
                have c1 : W.cell? ⟨w.heap.size, 129 + x * 6 + 3, none⟩ = some (.int .i64 (L.room x)) := hW.cod.being x 3 (by omega) (by omega)
                have c2 : W.cell? ⟨w.heap.size, 129 + y * 6 + 3, none⟩ = some (.int .i64 (L.room y)) := hW.cod.being y 3 (by omega) (by omega)
                have c3 : W.cell? ⟨w.heap.size, 129 + x * 6 + 2, none⟩ = some (.bool (L.keen x)) := hW.cod.being x 2 (by omega) (by omega)
                go_simp
                try with_reducible rfl
              simp only [Act.put, sT, List.set]
              refine wpAnyH_done (by kernel_rfl) ?_ _
              go_wp2
              go_ret
              exact ⟨ret_bool HN.out.symm, S2.low⟩
            | true =>
              have HN := hide (show seesL L (x : Int) (y : Int) = L.keen x by rw [HV2.out, hbr, hhi]; simp)
              go_enter Tryz.func50, Tryz.ntmps50
              go_wp2_with (refine wl_land (.tmp 3) rfl rfl _ L rfl (cod_new w L) ?_)
              refine (about_any L (x : Int) _).mono ?_
              rintro e w1 ⟨rfl, hb⟩
              have G1 := hide ((gd_start L w).call hb)
              rw [HA.out]
              clear hb
              go_wp2_with (refine wl_land (.tmp 3) rfl rfl _ L rfl G1.out.cod ?_)
              refine (about_any L (y : Int) _).mono ?_
              rintro e w2 ⟨rfl, hb⟩
              have G2 := hide (G1.out.call hb)
              rw [HB.out]
              clear hb
              have G2d : GdRel L w w2.drew := G2.out.drew
              go_wp2_with fail
              refine wp_region_held (S := fun W => GdRel L w W) (by kernel_rfl) ?_
              refine tw (i := 0) (d := some 17) (fuel := 38) (v := ?_) rfl rfl ?_ G2d ?_
              rotate_left
              · intro W hW
                have c1 : W.cell? ⟨w.heap.size, 129 + x * 6 + 3, none⟩ = some (.int .i64 (L.room x)) := hW.cod.being x 3 (by omega) (by omega)
                have c2 : W.cell? ⟨w.heap.size, 129 + y * 6 + 3, none⟩ = some (.int .i64 (L.room y)) := hW.cod.being y 3 (by omega) (by omega)
                have c3 : W.cell? ⟨w.heap.size, 129 + x * 6 + 2, none⟩ = some (.bool (L.keen x)) := hW.cod.being x 2 (by omega) (by omega)
                go_simp
                try with_reducible rfl
              simp only [Act.put, sT, List.set]
              refine tw (i := 1) (d := some 18) (fuel := 37) (v := ?_) rfl rfl ?_ G2d ?_
              rotate_left
              · intro W hW
                have c1 : W.cell? ⟨w.heap.size, 129 + x * 6 + 3, none⟩ = some (.int .i64 (L.room x)) := hW.cod.being x 3 (by omega) (by omega)
                have c2 : W.cell? ⟨w.heap.size, 129 + y * 6 + 3, none⟩ = some (.int .i64 (L.room y)) := hW.cod.being y 3 (by omega) (by omega)
                have c3 : W.cell? ⟨w.heap.size, 129 + x * 6 + 2, none⟩ = some (.bool (L.keen x)) := hW.cod.being x 2 (by omega) (by omega)
                go_simp
                try with_reducible rfl
              simp only [Act.put, sT, List.set]
              refine tw (i := 2) (d := some 19) (fuel := 36) (v := ?_) rfl rfl ?_ G2d ?_
              rotate_left
              · intro W hW
                have c1 : W.cell? ⟨w.heap.size, 129 + x * 6 + 3, none⟩ = some (.int .i64 (L.room x)) := hW.cod.being x 3 (by omega) (by omega)
                have c2 : W.cell? ⟨w.heap.size, 129 + y * 6 + 3, none⟩ = some (.int .i64 (L.room y)) := hW.cod.being y 3 (by omega) (by omega)
                have c3 : W.cell? ⟨w.heap.size, 129 + x * 6 + 2, none⟩ = some (.bool (L.keen x)) := hW.cod.being x 2 (by omega) (by omega)
                go_simp
                try with_reducible rfl
              simp only [Act.put, sT, List.set]
              refine tw (i := 3) (d := some 20) (fuel := 35) (v := ?_) rfl rfl ?_ G2d ?_
              rotate_left
              · intro W hW
                have c1 : W.cell? ⟨w.heap.size, 129 + x * 6 + 3, none⟩ = some (.int .i64 (L.room x)) := hW.cod.being x 3 (by omega) (by omega)
                have c2 : W.cell? ⟨w.heap.size, 129 + y * 6 + 3, none⟩ = some (.int .i64 (L.room y)) := hW.cod.being y 3 (by omega) (by omega)
                have c3 : W.cell? ⟨w.heap.size, 129 + x * 6 + 2, none⟩ = some (.bool (L.keen x)) := hW.cod.being x 2 (by omega) (by omega)
                go_simp
                try with_reducible rfl
              simp only [Act.put, sT, List.set]
              refine tw (i := 4) (d := some 21) (fuel := 34) (v := ?_) rfl rfl ?_ G2d ?_
              rotate_left
              · intro W hW
                have c1 : W.cell? ⟨w.heap.size, 129 + x * 6 + 3, none⟩ = some (.int .i64 (L.room x)) := hW.cod.being x 3 (by omega) (by omega)
                have c2 : W.cell? ⟨w.heap.size, 129 + y * 6 + 3, none⟩ = some (.int .i64 (L.room y)) := hW.cod.being y 3 (by omega) (by omega)
                have c3 : W.cell? ⟨w.heap.size, 129 + x * 6 + 2, none⟩ = some (.bool (L.keen x)) := hW.cod.being x 2 (by omega) (by omega)
                go_simp
                try with_reducible rfl
              simp only [Act.put, sT, List.set]
              refine tw (i := 5) (d := some 22) (fuel := 33) (v := ?_) rfl rfl ?_ G2d ?_
              rotate_left
              · intro W hW
                have c1 : W.cell? ⟨w.heap.size, 129 + x * 6 + 3, none⟩ = some (.int .i64 (L.room x)) := hW.cod.being x 3 (by omega) (by omega)
                have c2 : W.cell? ⟨w.heap.size, 129 + y * 6 + 3, none⟩ = some (.int .i64 (L.room y)) := hW.cod.being y 3 (by omega) (by omega)
                have c3 : W.cell? ⟨w.heap.size, 129 + x * 6 + 2, none⟩ = some (.bool (L.keen x)) := hW.cod.being x 2 (by omega) (by omega)
                go_simp
                try with_reducible rfl
              simp only [Act.put, sT, List.set]
              refine tw (i := 6) (d := some 23) (fuel := 32) (v := ?_) rfl rfl ?_ G2d ?_
              rotate_left
              · intro W hW
                have c1 : W.cell? ⟨w.heap.size, 129 + x * 6 + 3, none⟩ = some (.int .i64 (L.room x)) := hW.cod.being x 3 (by omega) (by omega)
                have c2 : W.cell? ⟨w.heap.size, 129 + y * 6 + 3, none⟩ = some (.int .i64 (L.room y)) := hW.cod.being y 3 (by omega) (by omega)
                have c3 : W.cell? ⟨w.heap.size, 129 + x * 6 + 2, none⟩ = some (.bool (L.keen x)) := hW.cod.being x 2 (by omega) (by omega)
                go_simp
                try with_reducible rfl
              simp only [Act.put, sT, List.set]
              refine tw (i := 7) (d := some 24) (fuel := 31) (v := ?_) rfl rfl ?_ G2d ?_
              rotate_left
              · intro W hW
                have c1 : W.cell? ⟨w.heap.size, 129 + x * 6 + 3, none⟩ = some (.int .i64 (L.room x)) := hW.cod.being x 3 (by omega) (by omega)
                have c2 : W.cell? ⟨w.heap.size, 129 + y * 6 + 3, none⟩ = some (.int .i64 (L.room y)) := hW.cod.being y 3 (by omega) (by omega)
                have c3 : W.cell? ⟨w.heap.size, 129 + x * 6 + 2, none⟩ = some (.bool (L.keen x)) := hW.cod.being x 2 (by omega) (by omega)
                go_simp
                try with_reducible rfl
              simp only [Act.put, sT, List.set]
              refine tw (i := 8) (d := some 25) (fuel := 30) (v := ?_) rfl rfl ?_ G2d ?_
              rotate_left
              · intro W hW
                have c1 : W.cell? ⟨w.heap.size, 129 + x * 6 + 3, none⟩ = some (.int .i64 (L.room x)) := hW.cod.being x 3 (by omega) (by omega)
                have c2 : W.cell? ⟨w.heap.size, 129 + y * 6 + 3, none⟩ = some (.int .i64 (L.room y)) := hW.cod.being y 3 (by omega) (by omega)
                have c3 : W.cell? ⟨w.heap.size, 129 + x * 6 + 2, none⟩ = some (.bool (L.keen x)) := hW.cod.being x 2 (by omega) (by omega)
                go_simp
                try with_reducible rfl
              simp only [Act.put, sT, List.set]
              refine tw (i := 9) (d := some 26) (fuel := 29) (v := ?_) rfl rfl ?_ G2d ?_
              rotate_left
              · intro W hW
                have c1 : W.cell? ⟨w.heap.size, 129 + x * 6 + 3, none⟩ = some (.int .i64 (L.room x)) := hW.cod.being x 3 (by omega) (by omega)
                have c2 : W.cell? ⟨w.heap.size, 129 + y * 6 + 3, none⟩ = some (.int .i64 (L.room y)) := hW.cod.being y 3 (by omega) (by omega)
                have c3 : W.cell? ⟨w.heap.size, 129 + x * 6 + 2, none⟩ = some (.bool (L.keen x)) := hW.cod.being x 2 (by omega) (by omega)
                go_simp
                try with_reducible rfl
              simp only [Act.put, sT, List.set]
              refine tw (i := 10) (d := some 27) (fuel := 28) (v := ?_) rfl rfl ?_ G2d ?_
              rotate_left
              · intro W hW
                have c1 : W.cell? ⟨w.heap.size, 129 + x * 6 + 3, none⟩ = some (.int .i64 (L.room x)) := hW.cod.being x 3 (by omega) (by omega)
                have c2 : W.cell? ⟨w.heap.size, 129 + y * 6 + 3, none⟩ = some (.int .i64 (L.room y)) := hW.cod.being y 3 (by omega) (by omega)
                have c3 : W.cell? ⟨w.heap.size, 129 + x * 6 + 2, none⟩ = some (.bool (L.keen x)) := hW.cod.being x 2 (by omega) (by omega)
                go_simp
                try with_reducible rfl
              simp only [Act.put, sT, List.set]
              refine tw (i := 11) (d := some 28) (fuel := 27) (v := ?_) rfl rfl ?_ G2d ?_
              rotate_left
              · intro W hW
                have c1 : W.cell? ⟨w.heap.size, 129 + x * 6 + 3, none⟩ = some (.int .i64 (L.room x)) := hW.cod.being x 3 (by omega) (by omega)
                have c2 : W.cell? ⟨w.heap.size, 129 + y * 6 + 3, none⟩ = some (.int .i64 (L.room y)) := hW.cod.being y 3 (by omega) (by omega)
                have c3 : W.cell? ⟨w.heap.size, 129 + x * 6 + 2, none⟩ = some (.bool (L.keen x)) := hW.cod.being x 2 (by omega) (by omega)
                go_simp
                try with_reducible rfl
              simp only [Act.put, sT, List.set]
              refine tw (i := 12) (d := some 29) (fuel := 26) (v := ?_) rfl rfl ?_ G2d ?_
              rotate_left
              · intro W hW
                have c1 : W.cell? ⟨w.heap.size, 129 + x * 6 + 3, none⟩ = some (.int .i64 (L.room x)) := hW.cod.being x 3 (by omega) (by omega)
                have c2 : W.cell? ⟨w.heap.size, 129 + y * 6 + 3, none⟩ = some (.int .i64 (L.room y)) := hW.cod.being y 3 (by omega) (by omega)
                have c3 : W.cell? ⟨w.heap.size, 129 + x * 6 + 2, none⟩ = some (.bool (L.keen x)) := hW.cod.being x 2 (by omega) (by omega)
                go_simp
                try with_reducible rfl
              simp only [Act.put, sT, List.set]
              refine tw (i := 13) (d := some 30) (fuel := 25) (v := ?_) rfl rfl ?_ G2d ?_
              rotate_left
              · intro W hW
                have c1 : W.cell? ⟨w.heap.size, 129 + x * 6 + 3, none⟩ = some (.int .i64 (L.room x)) := hW.cod.being x 3 (by omega) (by omega)
                have c2 : W.cell? ⟨w.heap.size, 129 + y * 6 + 3, none⟩ = some (.int .i64 (L.room y)) := hW.cod.being y 3 (by omega) (by omega)
                have c3 : W.cell? ⟨w.heap.size, 129 + x * 6 + 2, none⟩ = some (.bool (L.keen x)) := hW.cod.being x 2 (by omega) (by omega)
                go_simp
                try with_reducible rfl
              simp only [Act.put, sT, List.set]
              refine tw (i := 14) (d := some 31) (fuel := 24) (v := ?_) rfl rfl ?_ G2d ?_
              rotate_left
              · intro W hW
                have c1 : W.cell? ⟨w.heap.size, 129 + x * 6 + 3, none⟩ = some (.int .i64 (L.room x)) := hW.cod.being x 3 (by omega) (by omega)
                have c2 : W.cell? ⟨w.heap.size, 129 + y * 6 + 3, none⟩ = some (.int .i64 (L.room y)) := hW.cod.being y 3 (by omega) (by omega)
                have c3 : W.cell? ⟨w.heap.size, 129 + x * 6 + 2, none⟩ = some (.bool (L.keen x)) := hW.cod.being x 2 (by omega) (by omega)
                go_simp
                try with_reducible rfl
              simp only [Act.put, sT, List.set]
              refine tw (i := 15) (d := some 32) (fuel := 23) (v := ?_) rfl rfl ?_ G2d ?_
              rotate_left
              · intro W hW
                have c1 : W.cell? ⟨w.heap.size, 129 + x * 6 + 3, none⟩ = some (.int .i64 (L.room x)) := hW.cod.being x 3 (by omega) (by omega)
                have c2 : W.cell? ⟨w.heap.size, 129 + y * 6 + 3, none⟩ = some (.int .i64 (L.room y)) := hW.cod.being y 3 (by omega) (by omega)
                have c3 : W.cell? ⟨w.heap.size, 129 + x * 6 + 2, none⟩ = some (.bool (L.keen x)) := hW.cod.being x 2 (by omega) (by omega)
                go_simp
                try with_reducible rfl
              simp only [Act.put, sT, List.set]
              refine tk (i := 16) (d := some 33) (fuel := 22) (v := .agg L.cells) rfl rfl (Or.inl ⟨by rfl, fun W hW => exec_land (.tmp 3) rfl w.heap.size rfl hW.cod⟩) G2d ?_
              simp only [Act.put, sT, List.set]
              refine tw (i := 17) (d := some 34) (fuel := 21) (v := ?_) rfl rfl ?_ G2d ?_
              rotate_left
              · intro W hW
                have c1 : W.cell? ⟨w.heap.size, 129 + x * 6 + 3, none⟩ = some (.int .i64 (L.room x)) := hW.cod.being x 3 (by omega) (by omega)
                have c2 : W.cell? ⟨w.heap.size, 129 + y * 6 + 3, none⟩ = some (.int .i64 (L.room y)) := hW.cod.being y 3 (by omega) (by omega)
                have c3 : W.cell? ⟨w.heap.size, 129 + x * 6 + 2, none⟩ = some (.bool (L.keen x)) := hW.cod.being x 2 (by omega) (by omega)
                go_simp
                try with_reducible rfl
              simp only [Act.put, sT, List.set]
              refine tw (i := 18) (d := some 35) (fuel := 20) (v := ?_) rfl rfl ?_ G2d ?_
              rotate_left
              · intro W hW
                have c1 : W.cell? ⟨w.heap.size, 129 + x * 6 + 3, none⟩ = some (.int .i64 (L.room x)) := hW.cod.being x 3 (by omega) (by omega)
                have c2 : W.cell? ⟨w.heap.size, 129 + y * 6 + 3, none⟩ = some (.int .i64 (L.room y)) := hW.cod.being y 3 (by omega) (by omega)
                have c3 : W.cell? ⟨w.heap.size, 129 + x * 6 + 2, none⟩ = some (.bool (L.keen x)) := hW.cod.being x 2 (by omega) (by omega)
                go_simp
                try with_reducible rfl
              simp only [Act.put, sT, List.set]
              refine tw (i := 19) (d := some 36) (fuel := 19) (v := ?_) rfl rfl ?_ G2d ?_
              rotate_left
              · intro W hW
                have c1 : W.cell? ⟨w.heap.size, 129 + x * 6 + 3, none⟩ = some (.int .i64 (L.room x)) := hW.cod.being x 3 (by omega) (by omega)
                have c2 : W.cell? ⟨w.heap.size, 129 + y * 6 + 3, none⟩ = some (.int .i64 (L.room y)) := hW.cod.being y 3 (by omega) (by omega)
                have c3 : W.cell? ⟨w.heap.size, 129 + x * 6 + 2, none⟩ = some (.bool (L.keen x)) := hW.cod.being x 2 (by omega) (by omega)
                go_simp
                try with_reducible rfl
              simp only [Act.put, sT, List.set]
              refine tw (i := 20) (d := some 37) (fuel := 18) (v := ?_) rfl rfl ?_ G2d ?_
              rotate_left
              · intro W hW
                have c1 : W.cell? ⟨w.heap.size, 129 + x * 6 + 3, none⟩ = some (.int .i64 (L.room x)) := hW.cod.being x 3 (by omega) (by omega)
                have c2 : W.cell? ⟨w.heap.size, 129 + y * 6 + 3, none⟩ = some (.int .i64 (L.room y)) := hW.cod.being y 3 (by omega) (by omega)
                have c3 : W.cell? ⟨w.heap.size, 129 + x * 6 + 2, none⟩ = some (.bool (L.keen x)) := hW.cod.being x 2 (by omega) (by omega)
                go_simp
                try with_reducible rfl
              simp only [Act.put, sT, List.set]
              refine tw (i := 21) (d := some 38) (fuel := 17) (v := ?_) rfl rfl ?_ G2d ?_
              rotate_left
              · intro W hW
                have c1 : W.cell? ⟨w.heap.size, 129 + x * 6 + 3, none⟩ = some (.int .i64 (L.room x)) := hW.cod.being x 3 (by omega) (by omega)
                have c2 : W.cell? ⟨w.heap.size, 129 + y * 6 + 3, none⟩ = some (.int .i64 (L.room y)) := hW.cod.being y 3 (by omega) (by omega)
                have c3 : W.cell? ⟨w.heap.size, 129 + x * 6 + 2, none⟩ = some (.bool (L.keen x)) := hW.cod.being x 2 (by omega) (by omega)
                go_simp
                try with_reducible rfl
              simp only [Act.put, sT, List.set]
              refine wpAnyH_all (fuel := 16) (rs := [22]) (by kernel_rfl) (by simp) ?_
              intro i hi
              obtain rfl : i = 22 := by simpa using hi
              clear hi
              refine call_at (d := some 39) rfl rfl (by rfl) 48 #[.agg L.cells, .int .i64 (L.room y)] (by kernel_rfl) ?_
              refine (isbright_any L (L.room y) _).mono ?_
              rintro e x1 ⟨rfl, hb⟩
              have S1 := G2d.call hb
              clear hb
              rw [hbr]
              refine ⟨_, rfl, S1, ?_⟩
              simp only [Act.put, sT, List.set]
              refine tw (i := 23) (d := some 40) (fuel := 15) (v := ?_) rfl rfl ?_ S1 ?_
              rotate_left
              · intro W hW
                have c1 : W.cell? ⟨w.heap.size, 129 + x * 6 + 3, none⟩ = some (.int .i64 (L.room x)) := hW.cod.being x 3 (by omega) (by omega)
                have c2 : W.cell? ⟨w.heap.size, 129 + y * 6 + 3, none⟩ = some (.int .i64 (L.room y)) := hW.cod.being y 3 (by omega) (by omega)
                have c3 : W.cell? ⟨w.heap.size, 129 + x * 6 + 2, none⟩ = some (.bool (L.keen x)) := hW.cod.being x 2 (by omega) (by omega)
                go_simp
                try with_reducible rfl
              simp only [Act.put, sT, List.set]
              refine tw (i := 24) (d := some 41) (fuel := 14) (v := ?_) rfl rfl ?_ S1 ?_
              rotate_left
              · intro W hW
                have c1 : W.cell? ⟨w.heap.size, 129 + x * 6 + 3, none⟩ = some (.int .i64 (L.room x)) := hW.cod.being x 3 (by omega) (by omega)
                have c2 : W.cell? ⟨w.heap.size, 129 + y * 6 + 3, none⟩ = some (.int .i64 (L.room y)) := hW.cod.being y 3 (by omega) (by omega)
                have c3 : W.cell? ⟨w.heap.size, 129 + x * 6 + 2, none⟩ = some (.bool (L.keen x)) := hW.cod.being x 2 (by omega) (by omega)
                go_simp
                try with_reducible rfl
              simp only [Act.put, sT, List.set]
              refine tk (i := 25) (d := some 42) (fuel := 13) (v := .agg L.cells) rfl rfl (Or.inl ⟨by rfl, fun W hW => exec_land (.tmp 3) rfl w.heap.size rfl hW.cod⟩) S1 ?_
              simp only [Act.put, sT, List.set]
              refine tw (i := 26) (d := some 43) (fuel := 12) (v := ?_) rfl rfl ?_ S1 ?_
              rotate_left
              · intro W hW
                have c1 : W.cell? ⟨w.heap.size, 129 + x * 6 + 3, none⟩ = some (.int .i64 (L.room x)) := hW.cod.being x 3 (by omega) (by omega)
                have c2 : W.cell? ⟨w.heap.size, 129 + y * 6 + 3, none⟩ = some (.int .i64 (L.room y)) := hW.cod.being y 3 (by omega) (by omega)
                have c3 : W.cell? ⟨w.heap.size, 129 + x * 6 + 2, none⟩ = some (.bool (L.keen x)) := hW.cod.being x 2 (by omega) (by omega)
                go_simp
                try with_reducible rfl
              simp only [Act.put, sT, List.set]
              refine wpAnyH_all (fuel := 11) (rs := [27]) (by kernel_rfl) (by simp) ?_
              intro i hi
              obtain rfl : i = 27 := by simpa using hi
              clear hi
              refine call_at (d := some 44) rfl rfl (by rfl) 80 #[.agg L.cells, .int .i64 (y : Int)] (by kernel_rfl) ?_
              refine (ishidden_any L (y : Int) _).mono ?_
              rintro e x2 ⟨rfl, hb⟩
              have S2 := S1.call hb
              clear hb
              rw [hhi]
              refine ⟨_, rfl, S2, ?_⟩
              simp only [Act.put, sT, List.set]
              refine tw (i := 28) (d := some 45) (fuel := 10) (v := ?_) rfl rfl ?_ S2 ?_
              rotate_left
              · intro W hW
                have c1 : W.cell? ⟨w.heap.size, 129 + x * 6 + 3, none⟩ = some (.int .i64 (L.room x)) := hW.cod.being x 3 (by omega) (by omega)
                have c2 : W.cell? ⟨w.heap.size, 129 + y * 6 + 3, none⟩ = some (.int .i64 (L.room y)) := hW.cod.being y 3 (by omega) (by omega)
                have c3 : W.cell? ⟨w.heap.size, 129 + x * 6 + 2, none⟩ = some (.bool (L.keen x)) := hW.cod.being x 2 (by omega) (by omega)
                go_simp
                try with_reducible rfl
              simp only [Act.put, sT, List.set]
              refine tw (i := 29) (d := some 46) (fuel := 9) (v := ?_) rfl rfl ?_ S2 ?_
              rotate_left
              · intro W hW
                have c1 : W.cell? ⟨w.heap.size, 129 + x * 6 + 3, none⟩ = some (.int .i64 (L.room x)) := hW.cod.being x 3 (by omega) (by omega)
                have c2 : W.cell? ⟨w.heap.size, 129 + y * 6 + 3, none⟩ = some (.int .i64 (L.room y)) := hW.cod.being y 3 (by omega) (by omega)
                have c3 : W.cell? ⟨w.heap.size, 129 + x * 6 + 2, none⟩ = some (.bool (L.keen x)) := hW.cod.being x 2 (by omega) (by omega)
                go_simp
                try with_reducible rfl
              simp only [Act.put, sT, List.set]
              refine tw (i := 30) (d := some 47) (fuel := 8) (v := ?_) rfl rfl ?_ S2 ?_
              rotate_left
              · intro W hW
                have c1 : W.cell? ⟨w.heap.size, 129 + x * 6 + 3, none⟩ = some (.int .i64 (L.room x)) := hW.cod.being x 3 (by omega) (by omega)
                have c2 : W.cell? ⟨w.heap.size, 129 + y * 6 + 3, none⟩ = some (.int .i64 (L.room y)) := hW.cod.being y 3 (by omega) (by omega)
                have c3 : W.cell? ⟨w.heap.size, 129 + x * 6 + 2, none⟩ = some (.bool (L.keen x)) := hW.cod.being x 2 (by omega) (by omega)
                go_simp
                try with_reducible rfl
              simp only [Act.put, sT, List.set]
              refine tw (i := 31) (d := some 48) (fuel := 7) (v := ?_) rfl rfl ?_ S2 ?_
              rotate_left
              · intro W hW
                have c1 : W.cell? ⟨w.heap.size, 129 + x * 6 + 3, none⟩ = some (.int .i64 (L.room x)) := hW.cod.being x 3 (by omega) (by omega)
                have c2 : W.cell? ⟨w.heap.size, 129 + y * 6 + 3, none⟩ = some (.int .i64 (L.room y)) := hW.cod.being y 3 (by omega) (by omega)
                have c3 : W.cell? ⟨w.heap.size, 129 + x * 6 + 2, none⟩ = some (.bool (L.keen x)) := hW.cod.being x 2 (by omega) (by omega)
                go_simp
                try with_reducible rfl
              simp only [Act.put, sT, List.set]
              refine tw (i := 32) (d := some 49) (fuel := 6) (v := ?_) rfl rfl ?_ S2 ?_
              rotate_left
              · intro W hW
                have c1 : W.cell? ⟨w.heap.size, 129 + x * 6 + 3, none⟩ = some (.int .i64 (L.room x)) := hW.cod.being x 3 (by omega) (by omega)
                have c2 : W.cell? ⟨w.heap.size, 129 + y * 6 + 3, none⟩ = some (.int .i64 (L.room y)) := hW.cod.being y 3 (by omega) (by omega)
                have c3 : W.cell? ⟨w.heap.size, 129 + x * 6 + 2, none⟩ = some (.bool (L.keen x)) := hW.cod.being x 2 (by omega) (by omega)
                go_simp
                try with_reducible rfl
              simp only [Act.put, sT, List.set]
              refine tw (i := 33) (d := some 50) (fuel := 5) (v := ?_) rfl rfl ?_ S2 ?_
              rotate_left
              · intro W hW
                have c1 : W.cell? ⟨w.heap.size, 129 + x * 6 + 3, none⟩ = some (.int .i64 (L.room x)) := hW.cod.being x 3 (by omega) (by omega)
                have c2 : W.cell? ⟨w.heap.size, 129 + y * 6 + 3, none⟩ = some (.int .i64 (L.room y)) := hW.cod.being y 3 (by omega) (by omega)
                have c3 : W.cell? ⟨w.heap.size, 129 + x * 6 + 2, none⟩ = some (.bool (L.keen x)) := hW.cod.being x 2 (by omega) (by omega)
                go_simp
                try with_reducible rfl
              simp only [Act.put, sT, List.set]
              refine tw (i := 34) (d := some 51) (fuel := 4) (v := ?_) rfl rfl ?_ S2 ?_
              rotate_left
              · intro W hW
                have c1 : W.cell? ⟨w.heap.size, 129 + x * 6 + 3, none⟩ = some (.int .i64 (L.room x)) := hW.cod.being x 3 (by omega) (by omega)
                have c2 : W.cell? ⟨w.heap.size, 129 + y * 6 + 3, none⟩ = some (.int .i64 (L.room y)) := hW.cod.being y 3 (by omega) (by omega)
                have c3 : W.cell? ⟨w.heap.size, 129 + x * 6 + 2, none⟩ = some (.bool (L.keen x)) := hW.cod.being x 2 (by omega) (by omega)
                go_simp
                try with_reducible rfl
              simp only [Act.put, sT, List.set]
              refine tw (i := 35) (d := some 52) (fuel := 3) (v := ?_) rfl rfl ?_ S2 ?_
              rotate_left
              · intro W hW
                have c1 : W.cell? ⟨w.heap.size, 129 + x * 6 + 3, none⟩ = some (.int .i64 (L.room x)) := hW.cod.being x 3 (by omega) (by omega)
                have c2 : W.cell? ⟨w.heap.size, 129 + y * 6 + 3, none⟩ = some (.int .i64 (L.room y)) := hW.cod.being y 3 (by omega) (by omega)
                have c3 : W.cell? ⟨w.heap.size, 129 + x * 6 + 2, none⟩ = some (.bool (L.keen x)) := hW.cod.being x 2 (by omega) (by omega)
                go_simp
                try with_reducible rfl
              simp only [Act.put, sT, List.set]
              refine tw (i := 36) (d := some 53) (fuel := 2) (v := ?_) rfl rfl ?_ S2 ?_
              rotate_left
              · intro W hW
                have c1 : W.cell? ⟨w.heap.size, 129 + x * 6 + 3, none⟩ = some (.int .i64 (L.room x)) := hW.cod.being x 3 (by omega) (by omega)
                have c2 : W.cell? ⟨w.heap.size, 129 + y * 6 + 3, none⟩ = some (.int .i64 (L.room y)) := hW.cod.being y 3 (by omega) (by omega)
                have c3 : W.cell? ⟨w.heap.size, 129 + x * 6 + 2, none⟩ = some (.bool (L.keen x)) := hW.cod.being x 2 (by omega) (by omega)
                go_simp
                try with_reducible rfl
              simp only [Act.put, sT, List.set]
              refine tw (i := 37) (d := some 54) (fuel := 1) (v := ?_) rfl rfl ?_ S2 ?_
              rotate_left
              · intro W hW
                have c1 : W.cell? ⟨w.heap.size, 129 + x * 6 + 3, none⟩ = some (.int .i64 (L.room x)) := hW.cod.being x 3 (by omega) (by omega)
                have c2 : W.cell? ⟨w.heap.size, 129 + y * 6 + 3, none⟩ = some (.int .i64 (L.room y)) := hW.cod.being y 3 (by omega) (by omega)
                have c3 : W.cell? ⟨w.heap.size, 129 + x * 6 + 2, none⟩ = some (.bool (L.keen x)) := hW.cod.being x 2 (by omega) (by omega)
                go_simp
                try with_reducible rfl
              simp only [Act.put, sT, List.set]
              refine tw (i := 38) (d := some 6) (fuel := 0) (v := ?_) rfl rfl ?_ S2 ?_
              rotate_left
              · intro W hW
                have c1 : W.cell? ⟨w.heap.size, 129 + x * 6 + 3, none⟩ = some (.int .i64 (L.room x)) := hW.cod.being x 3 (by omega) (by omega)
                have c2 : W.cell? ⟨w.heap.size, 129 + y * 6 + 3, none⟩ = some (.int .i64 (L.room y)) := hW.cod.being y 3 (by omega) (by omega)
                have c3 : W.cell? ⟨w.heap.size, 129 + x * 6 + 2, none⟩ = some (.bool (L.keen x)) := hW.cod.being x 2 (by omega) (by omega)
                go_simp
                try with_reducible rfl
              simp only [Act.put, sT, List.set]
              refine wpAnyH_done (by kernel_rfl) ?_ _
              go_wp2
              go_ret
              exact ⟨ret_bool HN.out.symm, S2.low⟩
        · have fr : (L.room x == L.room y) = false := by simp [hr]
          have HN := hide (show seesL L (x : Int) (y : Int) = false by rw [HV.out, decide_eq_false hr]; rfl)
          clear hr
          go_enter Tryz.func50, Tryz.ntmps50
          go_wp2_with (refine wl_land (.tmp 3) rfl rfl _ L rfl (cod_new w L) ?_)
          refine (about_any L (x : Int) _).mono ?_
          rintro e w1 ⟨rfl, hb⟩
          have G1 := hide ((gd_start L w).call hb)
          rw [HA.out]
          clear hb
          go_wp2_with (refine wl_land (.tmp 3) rfl rfl _ L rfl G1.out.cod ?_)
          refine (about_any L (y : Int) _).mono ?_
          rintro e w2 ⟨rfl, hb⟩
          have G2 := hide (G1.out.call hb)
          rw [HB.out]
          clear hb
          have G2d : GdRel L w w2.drew := G2.out.drew
          go_wp2_with fail
          refine wp_region_held (S := fun W => GdRel L w W) (by kernel_rfl) ?_
          refine tw (i := 0) (d := some 17) (fuel := 38) (v := ?_) rfl rfl ?_ G2d ?_
          rotate_left
          · intro W hW
            have c1 : W.cell? ⟨w.heap.size, 129 + x * 6 + 3, none⟩ = some (.int .i64 (L.room x)) := hW.cod.being x 3 (by omega) (by omega)
            have c2 : W.cell? ⟨w.heap.size, 129 + y * 6 + 3, none⟩ = some (.int .i64 (L.room y)) := hW.cod.being y 3 (by omega) (by omega)
            have c3 : W.cell? ⟨w.heap.size, 129 + x * 6 + 2, none⟩ = some (.bool (L.keen x)) := hW.cod.being x 2 (by omega) (by omega)
            go_simp
            try with_reducible rfl
          simp only [Act.put, sT, List.set]
          refine tw (i := 1) (d := some 18) (fuel := 37) (v := ?_) rfl rfl ?_ G2d ?_
          rotate_left
          · intro W hW
            have c1 : W.cell? ⟨w.heap.size, 129 + x * 6 + 3, none⟩ = some (.int .i64 (L.room x)) := hW.cod.being x 3 (by omega) (by omega)
            have c2 : W.cell? ⟨w.heap.size, 129 + y * 6 + 3, none⟩ = some (.int .i64 (L.room y)) := hW.cod.being y 3 (by omega) (by omega)
            have c3 : W.cell? ⟨w.heap.size, 129 + x * 6 + 2, none⟩ = some (.bool (L.keen x)) := hW.cod.being x 2 (by omega) (by omega)
            go_simp
            try with_reducible rfl
          simp only [Act.put, sT, List.set]
          refine tw (i := 2) (d := some 19) (fuel := 36) (v := ?_) rfl rfl ?_ G2d ?_
          rotate_left
          · intro W hW
            have c1 : W.cell? ⟨w.heap.size, 129 + x * 6 + 3, none⟩ = some (.int .i64 (L.room x)) := hW.cod.being x 3 (by omega) (by omega)
            have c2 : W.cell? ⟨w.heap.size, 129 + y * 6 + 3, none⟩ = some (.int .i64 (L.room y)) := hW.cod.being y 3 (by omega) (by omega)
            have c3 : W.cell? ⟨w.heap.size, 129 + x * 6 + 2, none⟩ = some (.bool (L.keen x)) := hW.cod.being x 2 (by omega) (by omega)
            go_simp
            try with_reducible rfl
          simp only [Act.put, sT, List.set]
          refine tw (i := 3) (d := some 20) (fuel := 35) (v := ?_) rfl rfl ?_ G2d ?_
          rotate_left
          · intro W hW
            have c1 : W.cell? ⟨w.heap.size, 129 + x * 6 + 3, none⟩ = some (.int .i64 (L.room x)) := hW.cod.being x 3 (by omega) (by omega)
            have c2 : W.cell? ⟨w.heap.size, 129 + y * 6 + 3, none⟩ = some (.int .i64 (L.room y)) := hW.cod.being y 3 (by omega) (by omega)
            have c3 : W.cell? ⟨w.heap.size, 129 + x * 6 + 2, none⟩ = some (.bool (L.keen x)) := hW.cod.being x 2 (by omega) (by omega)
            go_simp
            try with_reducible rfl
          simp only [Act.put, sT, List.set]
          refine tw (i := 4) (d := some 21) (fuel := 34) (v := ?_) rfl rfl ?_ G2d ?_
          rotate_left
          · intro W hW
            have c1 : W.cell? ⟨w.heap.size, 129 + x * 6 + 3, none⟩ = some (.int .i64 (L.room x)) := hW.cod.being x 3 (by omega) (by omega)
            have c2 : W.cell? ⟨w.heap.size, 129 + y * 6 + 3, none⟩ = some (.int .i64 (L.room y)) := hW.cod.being y 3 (by omega) (by omega)
            have c3 : W.cell? ⟨w.heap.size, 129 + x * 6 + 2, none⟩ = some (.bool (L.keen x)) := hW.cod.being x 2 (by omega) (by omega)
            go_simp
            try with_reducible rfl
          simp only [Act.put, sT, List.set]
          refine tw (i := 5) (d := some 22) (fuel := 33) (v := ?_) rfl rfl ?_ G2d ?_
          rotate_left
          · intro W hW
            have c1 : W.cell? ⟨w.heap.size, 129 + x * 6 + 3, none⟩ = some (.int .i64 (L.room x)) := hW.cod.being x 3 (by omega) (by omega)
            have c2 : W.cell? ⟨w.heap.size, 129 + y * 6 + 3, none⟩ = some (.int .i64 (L.room y)) := hW.cod.being y 3 (by omega) (by omega)
            have c3 : W.cell? ⟨w.heap.size, 129 + x * 6 + 2, none⟩ = some (.bool (L.keen x)) := hW.cod.being x 2 (by omega) (by omega)
            go_simp
            try with_reducible rfl
          simp only [Act.put, sT, List.set]
          refine tw (i := 6) (d := some 23) (fuel := 32) (v := ?_) rfl rfl ?_ G2d ?_
          rotate_left
          · intro W hW
            have c1 : W.cell? ⟨w.heap.size, 129 + x * 6 + 3, none⟩ = some (.int .i64 (L.room x)) := hW.cod.being x 3 (by omega) (by omega)
            have c2 : W.cell? ⟨w.heap.size, 129 + y * 6 + 3, none⟩ = some (.int .i64 (L.room y)) := hW.cod.being y 3 (by omega) (by omega)
            have c3 : W.cell? ⟨w.heap.size, 129 + x * 6 + 2, none⟩ = some (.bool (L.keen x)) := hW.cod.being x 2 (by omega) (by omega)
            go_simp
            try with_reducible rfl
          simp only [Act.put, sT, List.set]
          refine tw (i := 7) (d := some 24) (fuel := 31) (v := ?_) rfl rfl ?_ G2d ?_
          rotate_left
          · intro W hW
            have c1 : W.cell? ⟨w.heap.size, 129 + x * 6 + 3, none⟩ = some (.int .i64 (L.room x)) := hW.cod.being x 3 (by omega) (by omega)
            have c2 : W.cell? ⟨w.heap.size, 129 + y * 6 + 3, none⟩ = some (.int .i64 (L.room y)) := hW.cod.being y 3 (by omega) (by omega)
            have c3 : W.cell? ⟨w.heap.size, 129 + x * 6 + 2, none⟩ = some (.bool (L.keen x)) := hW.cod.being x 2 (by omega) (by omega)
            go_simp
            try with_reducible rfl
          simp only [Act.put, sT, List.set]
          refine tw (i := 8) (d := some 25) (fuel := 30) (v := ?_) rfl rfl ?_ G2d ?_
          rotate_left
          · intro W hW
            have c1 : W.cell? ⟨w.heap.size, 129 + x * 6 + 3, none⟩ = some (.int .i64 (L.room x)) := hW.cod.being x 3 (by omega) (by omega)
            have c2 : W.cell? ⟨w.heap.size, 129 + y * 6 + 3, none⟩ = some (.int .i64 (L.room y)) := hW.cod.being y 3 (by omega) (by omega)
            have c3 : W.cell? ⟨w.heap.size, 129 + x * 6 + 2, none⟩ = some (.bool (L.keen x)) := hW.cod.being x 2 (by omega) (by omega)
            go_simp
            try with_reducible rfl
          simp only [Act.put, sT, List.set]
          refine tw (i := 9) (d := some 26) (fuel := 29) (v := ?_) rfl rfl ?_ G2d ?_
          rotate_left
          · intro W hW
            have c1 : W.cell? ⟨w.heap.size, 129 + x * 6 + 3, none⟩ = some (.int .i64 (L.room x)) := hW.cod.being x 3 (by omega) (by omega)
            have c2 : W.cell? ⟨w.heap.size, 129 + y * 6 + 3, none⟩ = some (.int .i64 (L.room y)) := hW.cod.being y 3 (by omega) (by omega)
            have c3 : W.cell? ⟨w.heap.size, 129 + x * 6 + 2, none⟩ = some (.bool (L.keen x)) := hW.cod.being x 2 (by omega) (by omega)
            go_simp
            try with_reducible rfl
          simp only [Act.put, sT, List.set]
          refine tw (i := 10) (d := some 27) (fuel := 28) (v := ?_) rfl rfl ?_ G2d ?_
          rotate_left
          · intro W hW
            have c1 : W.cell? ⟨w.heap.size, 129 + x * 6 + 3, none⟩ = some (.int .i64 (L.room x)) := hW.cod.being x 3 (by omega) (by omega)
            have c2 : W.cell? ⟨w.heap.size, 129 + y * 6 + 3, none⟩ = some (.int .i64 (L.room y)) := hW.cod.being y 3 (by omega) (by omega)
            have c3 : W.cell? ⟨w.heap.size, 129 + x * 6 + 2, none⟩ = some (.bool (L.keen x)) := hW.cod.being x 2 (by omega) (by omega)
            go_simp
            try with_reducible rfl
          simp only [Act.put, sT, List.set]
          refine tw (i := 11) (d := some 28) (fuel := 27) (v := ?_) rfl rfl ?_ G2d ?_
          rotate_left
          · intro W hW
            have c1 : W.cell? ⟨w.heap.size, 129 + x * 6 + 3, none⟩ = some (.int .i64 (L.room x)) := hW.cod.being x 3 (by omega) (by omega)
            have c2 : W.cell? ⟨w.heap.size, 129 + y * 6 + 3, none⟩ = some (.int .i64 (L.room y)) := hW.cod.being y 3 (by omega) (by omega)
            have c3 : W.cell? ⟨w.heap.size, 129 + x * 6 + 2, none⟩ = some (.bool (L.keen x)) := hW.cod.being x 2 (by omega) (by omega)
            go_simp
            try with_reducible rfl
          simp only [Act.put, sT, List.set]
          refine tw (i := 12) (d := some 29) (fuel := 26) (v := ?_) rfl rfl ?_ G2d ?_
          rotate_left
          · intro W hW
            have c1 : W.cell? ⟨w.heap.size, 129 + x * 6 + 3, none⟩ = some (.int .i64 (L.room x)) := hW.cod.being x 3 (by omega) (by omega)
            have c2 : W.cell? ⟨w.heap.size, 129 + y * 6 + 3, none⟩ = some (.int .i64 (L.room y)) := hW.cod.being y 3 (by omega) (by omega)
            have c3 : W.cell? ⟨w.heap.size, 129 + x * 6 + 2, none⟩ = some (.bool (L.keen x)) := hW.cod.being x 2 (by omega) (by omega)
            go_simp
            try with_reducible rfl
          simp only [Act.put, sT, List.set]
          refine tw (i := 13) (d := some 30) (fuel := 25) (v := ?_) rfl rfl ?_ G2d ?_
          rotate_left
          · intro W hW
            have c1 : W.cell? ⟨w.heap.size, 129 + x * 6 + 3, none⟩ = some (.int .i64 (L.room x)) := hW.cod.being x 3 (by omega) (by omega)
            have c2 : W.cell? ⟨w.heap.size, 129 + y * 6 + 3, none⟩ = some (.int .i64 (L.room y)) := hW.cod.being y 3 (by omega) (by omega)
            have c3 : W.cell? ⟨w.heap.size, 129 + x * 6 + 2, none⟩ = some (.bool (L.keen x)) := hW.cod.being x 2 (by omega) (by omega)
            go_simp
            try with_reducible rfl
          simp only [Act.put, sT, List.set]
          refine tw (i := 14) (d := some 31) (fuel := 24) (v := ?_) rfl rfl ?_ G2d ?_
          rotate_left
          · intro W hW
            have c1 : W.cell? ⟨w.heap.size, 129 + x * 6 + 3, none⟩ = some (.int .i64 (L.room x)) := hW.cod.being x 3 (by omega) (by omega)
            have c2 : W.cell? ⟨w.heap.size, 129 + y * 6 + 3, none⟩ = some (.int .i64 (L.room y)) := hW.cod.being y 3 (by omega) (by omega)
            have c3 : W.cell? ⟨w.heap.size, 129 + x * 6 + 2, none⟩ = some (.bool (L.keen x)) := hW.cod.being x 2 (by omega) (by omega)
            go_simp
            try with_reducible rfl
          simp only [Act.put, sT, List.set]
          refine tw (i := 15) (d := some 32) (fuel := 23) (v := ?_) rfl rfl ?_ G2d ?_
          rotate_left
          · intro W hW
            have c1 : W.cell? ⟨w.heap.size, 129 + x * 6 + 3, none⟩ = some (.int .i64 (L.room x)) := hW.cod.being x 3 (by omega) (by omega)
            have c2 : W.cell? ⟨w.heap.size, 129 + y * 6 + 3, none⟩ = some (.int .i64 (L.room y)) := hW.cod.being y 3 (by omega) (by omega)
            have c3 : W.cell? ⟨w.heap.size, 129 + x * 6 + 2, none⟩ = some (.bool (L.keen x)) := hW.cod.being x 2 (by omega) (by omega)
            go_simp
            try with_reducible rfl
          simp only [Act.put, sT, List.set]
          refine tk (i := 16) (d := some 33) (fuel := 22) (v := undef) rfl rfl (Or.inr ⟨by rfl, rfl⟩) G2d ?_
          simp only [Act.put, sT, List.set]
          refine tk (i := 17) (d := some 34) (fuel := 21) (v := undef) rfl rfl (Or.inr ⟨by rfl, rfl⟩) G2d ?_
          simp only [Act.put, sT, List.set]
          refine tk (i := 18) (d := some 35) (fuel := 20) (v := undef) rfl rfl (Or.inr ⟨by rfl, rfl⟩) G2d ?_
          simp only [Act.put, sT, List.set]
          refine tk (i := 19) (d := some 36) (fuel := 19) (v := undef) rfl rfl (Or.inr ⟨by rfl, rfl⟩) G2d ?_
          simp only [Act.put, sT, List.set]
          refine tk (i := 20) (d := some 37) (fuel := 18) (v := undef) rfl rfl (Or.inr ⟨by rfl, rfl⟩) G2d ?_
          simp only [Act.put, sT, List.set]
          refine tk (i := 21) (d := some 38) (fuel := 17) (v := undef) rfl rfl (Or.inr ⟨by rfl, rfl⟩) G2d ?_
          simp only [Act.put, sT, List.set]
          refine tk (i := 22) (d := some 39) (fuel := 16) (v := undef) rfl rfl (Or.inr ⟨by rfl, rfl⟩) G2d ?_
          simp only [Act.put, sT, List.set]
          refine tw (i := 23) (d := some 40) (fuel := 15) (v := ?_) rfl rfl ?_ G2d ?_
          rotate_left
          · intro W hW
            have c1 : W.cell? ⟨w.heap.size, 129 + x * 6 + 3, none⟩ = some (.int .i64 (L.room x)) := hW.cod.being x 3 (by omega) (by omega)
            have c2 : W.cell? ⟨w.heap.size, 129 + y * 6 + 3, none⟩ = some (.int .i64 (L.room y)) := hW.cod.being y 3 (by omega) (by omega)
            have c3 : W.cell? ⟨w.heap.size, 129 + x * 6 + 2, none⟩ = some (.bool (L.keen x)) := hW.cod.being x 2 (by omega) (by omega)
            go_simp
            try with_reducible rfl
          simp only [Act.put, sT, List.set]
          refine tw (i := 24) (d := some 41) (fuel := 14) (v := ?_) rfl rfl ?_ G2d ?_
          rotate_left
          · intro W hW
            have c1 : W.cell? ⟨w.heap.size, 129 + x * 6 + 3, none⟩ = some (.int .i64 (L.room x)) := hW.cod.being x 3 (by omega) (by omega)
            have c2 : W.cell? ⟨w.heap.size, 129 + y * 6 + 3, none⟩ = some (.int .i64 (L.room y)) := hW.cod.being y 3 (by omega) (by omega)
            have c3 : W.cell? ⟨w.heap.size, 129 + x * 6 + 2, none⟩ = some (.bool (L.keen x)) := hW.cod.being x 2 (by omega) (by omega)
            go_simp
            try with_reducible rfl
          simp only [Act.put, sT, List.set]
          refine tk (i := 25) (d := some 42) (fuel := 13) (v := undef) rfl rfl (Or.inr ⟨by rfl, rfl⟩) G2d ?_
          simp only [Act.put, sT, List.set]
          refine tk (i := 26) (d := some 43) (fuel := 12) (v := undef) rfl rfl (Or.inr ⟨by rfl, rfl⟩) G2d ?_
          simp only [Act.put, sT, List.set]
          refine tk (i := 27) (d := some 44) (fuel := 11) (v := undef) rfl rfl (Or.inr ⟨by rfl, rfl⟩) G2d ?_
          simp only [Act.put, sT, List.set]
          refine tk (i := 28) (d := some 45) (fuel := 10) (v := undef) rfl rfl (Or.inr ⟨by rfl, rfl⟩) G2d ?_
          simp only [Act.put, sT, List.set]
          refine tk (i := 29) (d := some 46) (fuel := 9) (v := undef) rfl rfl (Or.inr ⟨by rfl, rfl⟩) G2d ?_
          simp only [Act.put, sT, List.set]
          refine tk (i := 30) (d := some 47) (fuel := 8) (v := undef) rfl rfl (Or.inr ⟨by rfl, rfl⟩) G2d ?_
          simp only [Act.put, sT, List.set]
          refine tk (i := 31) (d := some 48) (fuel := 7) (v := undef) rfl rfl (Or.inr ⟨by rfl, rfl⟩) G2d ?_
          simp only [Act.put, sT, List.set]
          refine tk (i := 32) (d := some 49) (fuel := 6) (v := undef) rfl rfl (Or.inr ⟨by rfl, rfl⟩) G2d ?_
          simp only [Act.put, sT, List.set]
          refine tk (i := 33) (d := some 50) (fuel := 5) (v := undef) rfl rfl (Or.inr ⟨by rfl, rfl⟩) G2d ?_
          simp only [Act.put, sT, List.set]
          refine tk (i := 34) (d := some 51) (fuel := 4) (v := undef) rfl rfl (Or.inr ⟨by rfl, rfl⟩) G2d ?_
          simp only [Act.put, sT, List.set]
          refine tk (i := 35) (d := some 52) (fuel := 3) (v := undef) rfl rfl (Or.inr ⟨by rfl, rfl⟩) G2d ?_
          simp only [Act.put, sT, List.set]
          refine tw (i := 36) (d := some 53) (fuel := 2) (v := ?_) rfl rfl ?_ G2d ?_
          rotate_left
          · intro W hW
            have c1 : W.cell? ⟨w.heap.size, 129 + x * 6 + 3, none⟩ = some (.int .i64 (L.room x)) := hW.cod.being x 3 (by omega) (by omega)
            have c2 : W.cell? ⟨w.heap.size, 129 + y * 6 + 3, none⟩ = some (.int .i64 (L.room y)) := hW.cod.being y 3 (by omega) (by omega)
            have c3 : W.cell? ⟨w.heap.size, 129 + x * 6 + 2, none⟩ = some (.bool (L.keen x)) := hW.cod.being x 2 (by omega) (by omega)
            go_simp
            try with_reducible rfl
          simp only [Act.put, sT, List.set]
          refine tw (i := 37) (d := some 54) (fuel := 1) (v := ?_) rfl rfl ?_ G2d ?_
          rotate_left
          · intro W hW
            have c1 : W.cell? ⟨w.heap.size, 129 + x * 6 + 3, none⟩ = some (.int .i64 (L.room x)) := hW.cod.being x 3 (by omega) (by omega)
            have c2 : W.cell? ⟨w.heap.size, 129 + y * 6 + 3, none⟩ = some (.int .i64 (L.room y)) := hW.cod.being y 3 (by omega) (by omega)
            have c3 : W.cell? ⟨w.heap.size, 129 + x * 6 + 2, none⟩ = some (.bool (L.keen x)) := hW.cod.being x 2 (by omega) (by omega)
            go_simp
            try with_reducible rfl
          simp only [Act.put, sT, List.set]
          refine tw (i := 38) (d := some 6) (fuel := 0) (v := ?_) rfl rfl ?_ G2d ?_
          rotate_left
          · intro W hW
            have c1 : W.cell? ⟨w.heap.size, 129 + x * 6 + 3, none⟩ = some (.int .i64 (L.room x)) := hW.cod.being x 3 (by omega) (by omega)
            have c2 : W.cell? ⟨w.heap.size, 129 + y * 6 + 3, none⟩ = some (.int .i64 (L.room y)) := hW.cod.being y 3 (by omega) (by omega)
            have c3 : W.cell? ⟨w.heap.size, 129 + x * 6 + 2, none⟩ = some (.bool (L.keen x)) := hW.cod.being x 2 (by omega) (by omega)
            go_simp
            try with_reducible rfl
          simp only [Act.put, sT, List.set]
          refine wpAnyH_done (by kernel_rfl) ?_ _
          go_wp2
          go_ret
          exact ⟨ret_bool HN.out.symm, G2d.low⟩
/-
  The document's own Perceived and Everybody: contracts.
-/
set_option maxRecDepth 100000 in
set_option maxHeartbeats 2000000 in
theorem perceived_any (L : Ld) (b : Int) (E : Ev) (w : World) :
    Calls Tryz.prog 81 #[.agg L.cells, .int .i64 b, .agg E.cells] w fun e w' => e = .returned (.int .i64 (percL L b E.kind E.room E.actor E.other)) ∧ Below w.heap.size w w' := by
  have P0 := hide (pv_start L E w)
  cases ha : abtL L b with
  | false =>
    have HV := hide (perc_gone (kind := E.kind) (room := E.room) (actor := E.actor) (other := E.other) ha)
    go_enter Tryz.func81, Tryz.ntmps81
    go_wp2_with (refine wl_land (.tmp 3) rfl rfl _ L rfl P0.out.cod ?_)
    refine (about_any L b _).mono ?_
    rintro e w1 ⟨rfl, hb⟩
    have G1 := hide (P0.out.call hb)
    rw [ha]
    clear hb ha
    go_wp2
    go_ret
    exact ⟨ret_int HV.out.symm, G1.out.low⟩
  | true =>
    have pa : amg b 6 = true := by simp only [abtL, Bool.and_eq_true] at ha; exact ha.1
    obtain ⟨a0, a6⟩ := amg_pos pa
    obtain ⟨b, rfl⟩ := Int.eq_ofNat_of_zero_le a0
    have HA := hide ha
    clear ha pa
    by_cases hn : (b : Int) = E.actor
    · have HT := hide (perc_own (kind := E.kind) (room := E.room) (other := E.other) HA.out hn)
      have e1 : ((b : Int) == E.actor) = true := by simp [hn]
      clear hn
      go_enter Tryz.func81, Tryz.ntmps81
      go_wp2_with (refine wl_land (.tmp 3) rfl rfl _ L rfl P0.out.cod ?_)
      refine (about_any L (b : Int) _).mono ?_
      rintro e w1 ⟨rfl, hb⟩
      have G1 := hide (P0.out.call hb)
      rw [HA.out]
      have k0 := G1.out.cev.kind
      have k1 := G1.out.cev.room
      have k2 := G1.out.cev.actor
      have kr : w1.cell? ⟨w.heap.size, 129 + b * 6 + 3, none⟩ = some (.int .i64 (L.room b)) := G1.out.cod.being b 3 (by omega) (by omega)
      clear hb
      go_wp2_with fail
      go_region
      all_goals have G1d := hide G1.out.drew
      all_goals clear k0 k1 k2 kr
      all_goals
        have k3 := G1d.out.cev.othr
        by_cases ho0 : 0 ≤ E.other
        · by_cases ho6 : E.other < 6
          · have HO := hide (amg_mk ho0 ho6)
            go_wp2_with (refine wl_land (.tmp 3) rfl rfl _ L rfl G1d.out.cod ?_)
            refine (isseen_any L (b : Int) E.other _).mono ?_
            rintro e w8 ⟨rfl, hb⟩
            have G8 := hide (G1d.out.call hb)
            clear hb k3
            cases hs : seesL L (b : Int) E.other with
            | true =>
              have HN := hide (show percL L (b : Int) E.kind E.room E.actor E.other = 1 by rw [HT.out]; simp [hs])
              go_wp2
              go_ret
              exact ⟨ret_int HN.out.symm, G8.out.low⟩
            | false =>
              have HN := hide (show percL L (b : Int) E.kind E.room E.actor E.other = 5 by rw [HT.out]; simp [hs, HO.out])
              go_wp2
              go_ret
              exact ⟨ret_int HN.out.symm, G8.out.low⟩
          · have HN := hide (show percL L (b : Int) E.kind E.room E.actor E.other = 1 by rw [HT.out, amg_no (by omega)]; simp)
            have d6 : decide (E.other < 6) = false := decide_eq_false ho6
            have d6' : 6 ≤ E.other := by omega
            clear ho6
            go_wp2
            go_ret
            exact ⟨ret_int HN.out.symm, G1d.out.low⟩
        · have HN := hide (show percL L (b : Int) E.kind E.room E.actor E.other = 1 by rw [HT.out, amg_no (by omega)]; simp)
          go_wp2
          go_ret
          exact ⟨ret_int HN.out.symm, G1d.out.low⟩
    · have e1 : ((b : Int) == E.actor) = false := by simp [hn]
      have HNE := hide hn
      clear hn
      by_cases h16 : E.kind = 16
      · have HN := hide (perc_told (other := E.other) (room := E.room) HA.out HNE.out (.inl h16))
        have e16 : (E.kind == 16) = true := by simp [h16]
        clear h16
        go_enter Tryz.func81, Tryz.ntmps81
        go_wp2_with (refine wl_land (.tmp 3) rfl rfl _ L rfl P0.out.cod ?_)
        refine (about_any L (b : Int) _).mono ?_
        rintro e w1 ⟨rfl, hb⟩
        have G1 := hide (P0.out.call hb)
        rw [HA.out]
        have k0 := G1.out.cev.kind
        have k1 := G1.out.cev.room
        have k2 := G1.out.cev.actor
        have kr : w1.cell? ⟨w.heap.size, 129 + b * 6 + 3, none⟩ = some (.int .i64 (L.room b)) := G1.out.cod.being b 3 (by omega) (by omega)
        clear hb
        go_wp2_with fail
        go_region
        all_goals go_wp2
        all_goals go_ret
        all_goals exact ⟨ret_int HN.out.symm, G1.out.drew.low⟩
      · have e16 : (E.kind == 16) = false := by simp [h16]
        have H16 := hide h16
        clear h16
        by_cases hr : L.room b = E.room
        · have er : (L.room b != E.room) = false := by simp [hr]
          have H2 := hide (show ¬ (E.kind = 16 ∨ L.room (b : Int).toNat ≠ E.room) by
            rw [Int.toNat_natCast]; intro h; rcases h with h | h
            · exact H16.out h
            · exact h hr)
          clear hr
          go_enter Tryz.func81, Tryz.ntmps81
          go_wp2_with (refine wl_land (.tmp 3) rfl rfl _ L rfl P0.out.cod ?_)
          refine (about_any L (b : Int) _).mono ?_
          rintro e w1 ⟨rfl, hb⟩
          have G1 := hide (P0.out.call hb)
          rw [HA.out]
          have k0 := G1.out.cev.kind
          have k1 := G1.out.cev.room
          have k2 := G1.out.cev.actor
          have kr : w1.cell? ⟨w.heap.size, 129 + b * 6 + 3, none⟩ = some (.int .i64 (L.room b)) := G1.out.cod.being b 3 (by omega) (by omega)
          clear hb
          go_wp2_with fail
          go_region
          all_goals
            have G1d := hide G1.out.drew
            go_wp2_with (refine wl_land (.tmp 3) rfl rfl _ L rfl G1d.out.cod ?_)
            refine (isseen_any L (b : Int) E.actor _).mono ?_
            rintro e w3 ⟨rfl, hb⟩
            have G3 := hide (G1d.out.call hb)
            clear hb k0 k1 k2 kr
            have k0 := G3.out.cev.kind
            cases hs : seesL L (b : Int) E.actor with
            | true =>
              have HT := hide (perc_seen (other := E.other) HA.out HNE.out H2.out hs)
              clear hs
              have k3 := G3.out.cev.othr
              by_cases ho0 : 0 ≤ E.other
              · by_cases ho6 : E.other < 6
                · have HO := hide (amg_mk ho0 ho6)
                  go_wp2_with (refine wl_land (.tmp 3) rfl rfl _ L rfl G3.out.cod ?_)
                  refine (isseen_any L (b : Int) E.other _).mono ?_
                  rintro e w8 ⟨rfl, hb⟩
                  have G8 := hide (G3.out.call hb)
                  clear hb k3
                  cases hs : seesL L (b : Int) E.other with
                  | true =>
                    have HN := hide (show percL L (b : Int) E.kind E.room E.actor E.other = 1 by rw [HT.out]; simp [hs])
                    go_wp2
                    go_ret
                    exact ⟨ret_int HN.out.symm, G8.out.low⟩
                  | false =>
                    have HN := hide (show percL L (b : Int) E.kind E.room E.actor E.other = 5 by rw [HT.out]; simp [hs, HO.out])
                    go_wp2
                    go_ret
                    exact ⟨ret_int HN.out.symm, G8.out.low⟩
                · have HN := hide (show percL L (b : Int) E.kind E.room E.actor E.other = 1 by rw [HT.out, amg_no (by omega)]; simp)
                  have d6 : decide (E.other < 6) = false := decide_eq_false ho6
                  have d6' : 6 ≤ E.other := by omega
                  clear ho6
                  go_wp2
                  go_ret
                  exact ⟨ret_int HN.out.symm, G3.out.low⟩
              · have HN := hide (show percL L (b : Int) E.kind E.room E.actor E.other = 1 by rw [HT.out, amg_no (by omega)]; simp)
                go_wp2
                go_ret
                exact ⟨ret_int HN.out.symm, G3.out.low⟩
            | false =>
              have HS := hide hs
              clear hs
              cases hl : loud E.kind with
              | false =>
                have HN := hide (perc_quiet (other := E.other) HA.out HNE.out H2.out HS.out hl)
                have hl3 : E.kind ≠ 7 ∧ E.kind ≠ 14 ∧ E.kind ≠ 15 := by simp [loud] at hl; exact ⟨hl.1.1, hl.1.2, hl.2⟩
                have q7 : (E.kind != 7) = true := by simp [hl3.1]
                have q14 : (E.kind != 14) = true := by simp [hl3.2.1]
                have q15 : (E.kind != 15) = true := by simp [hl3.2.2]
                clear hl hl3
                go_wp2
                go_ret
                exact ⟨ret_int HN.out.symm, G3.out.low⟩
              | true =>
                by_cases e7 : E.kind = 7
                · have HT := hide (perc_heard (other := E.other) HA.out HNE.out H2.out HS.out hl)
                  have q7 : (E.kind != 7) = false := by simp [e7]
                  clear hl e7
                  have k3 := G3.out.cev.othr
                  by_cases ho0 : 0 ≤ E.other
                  · by_cases ho6 : E.other < 6
                    · have HO := hide (amg_mk ho0 ho6)
                      go_wp2_with (refine wl_land (.tmp 3) rfl rfl _ L rfl G3.out.cod ?_)
                      refine (isseen_any L (b : Int) E.other _).mono ?_
                      rintro e w8 ⟨rfl, hb⟩
                      have G8 := hide (G3.out.call hb)
                      clear hb k3
                      cases hs : seesL L (b : Int) E.other with
                      | true =>
                        have HN := hide (show percL L (b : Int) E.kind E.room E.actor E.other = 3 by rw [HT.out]; simp [hs])
                        go_wp2
                        go_ret
                        exact ⟨ret_int HN.out.symm, G8.out.low⟩
                      | false =>
                        have HN := hide (show percL L (b : Int) E.kind E.room E.actor E.other = 7 by rw [HT.out]; simp [hs, HO.out])
                        go_wp2
                        go_ret
                        exact ⟨ret_int HN.out.symm, G8.out.low⟩
                    · have HN := hide (show percL L (b : Int) E.kind E.room E.actor E.other = 3 by rw [HT.out, amg_no (by omega)]; simp)
                      have d6 : decide (E.other < 6) = false := decide_eq_false ho6
                      have d6' : 6 ≤ E.other := by omega
                      clear ho6
                      go_wp2
                      go_ret
                      exact ⟨ret_int HN.out.symm, G3.out.low⟩
                  · have HN := hide (show percL L (b : Int) E.kind E.room E.actor E.other = 3 by rw [HT.out, amg_no (by omega)]; simp)
                    go_wp2
                    go_ret
                    exact ⟨ret_int HN.out.symm, G3.out.low⟩
                · by_cases e14 : E.kind = 14
                  · have HT := hide (perc_heard (other := E.other) HA.out HNE.out H2.out HS.out hl)
                    have q7 : (E.kind != 7) = true := by simp [e7]
                    have q14 : (E.kind != 14) = false := by simp [e14]
                    clear hl e7 e14
                    have k3 := G3.out.cev.othr
                    by_cases ho0 : 0 ≤ E.other
                    · by_cases ho6 : E.other < 6
                      · have HO := hide (amg_mk ho0 ho6)
                        go_wp2_with (refine wl_land (.tmp 3) rfl rfl _ L rfl G3.out.cod ?_)
                        refine (isseen_any L (b : Int) E.other _).mono ?_
                        rintro e w8 ⟨rfl, hb⟩
                        have G8 := hide (G3.out.call hb)
                        clear hb k3
                        cases hs : seesL L (b : Int) E.other with
                        | true =>
                          have HN := hide (show percL L (b : Int) E.kind E.room E.actor E.other = 3 by rw [HT.out]; simp [hs])
                          go_wp2
                          go_ret
                          exact ⟨ret_int HN.out.symm, G8.out.low⟩
                        | false =>
                          have HN := hide (show percL L (b : Int) E.kind E.room E.actor E.other = 7 by rw [HT.out]; simp [hs, HO.out])
                          go_wp2
                          go_ret
                          exact ⟨ret_int HN.out.symm, G8.out.low⟩
                      · have HN := hide (show percL L (b : Int) E.kind E.room E.actor E.other = 3 by rw [HT.out, amg_no (by omega)]; simp)
                        have d6 : decide (E.other < 6) = false := decide_eq_false ho6
                        have d6' : 6 ≤ E.other := by omega
                        clear ho6
                        go_wp2
                        go_ret
                        exact ⟨ret_int HN.out.symm, G3.out.low⟩
                    · have HN := hide (show percL L (b : Int) E.kind E.room E.actor E.other = 3 by rw [HT.out, amg_no (by omega)]; simp)
                      go_wp2
                      go_ret
                      exact ⟨ret_int HN.out.symm, G3.out.low⟩
                  · have e15 : E.kind = 15 := by simp [loud, e7, e14] at hl; exact hl
                    have HT := hide (perc_heard (other := E.other) HA.out HNE.out H2.out HS.out hl)
                    have q7 : (E.kind != 7) = true := by simp [e7]
                    have q14 : (E.kind != 14) = true := by simp [e14]
                    have q15 : (E.kind != 15) = false := by simp [e15]
                    clear hl e7 e14 e15
                    have k3 := G3.out.cev.othr
                    by_cases ho0 : 0 ≤ E.other
                    · by_cases ho6 : E.other < 6
                      · have HO := hide (amg_mk ho0 ho6)
                        go_wp2_with (refine wl_land (.tmp 3) rfl rfl _ L rfl G3.out.cod ?_)
                        refine (isseen_any L (b : Int) E.other _).mono ?_
                        rintro e w8 ⟨rfl, hb⟩
                        have G8 := hide (G3.out.call hb)
                        clear hb k3
                        cases hs : seesL L (b : Int) E.other with
                        | true =>
                          have HN := hide (show percL L (b : Int) E.kind E.room E.actor E.other = 3 by rw [HT.out]; simp [hs])
                          go_wp2
                          go_ret
                          exact ⟨ret_int HN.out.symm, G8.out.low⟩
                        | false =>
                          have HN := hide (show percL L (b : Int) E.kind E.room E.actor E.other = 7 by rw [HT.out]; simp [hs, HO.out])
                          go_wp2
                          go_ret
                          exact ⟨ret_int HN.out.symm, G8.out.low⟩
                      · have HN := hide (show percL L (b : Int) E.kind E.room E.actor E.other = 3 by rw [HT.out, amg_no (by omega)]; simp)
                        have d6 : decide (E.other < 6) = false := decide_eq_false ho6
                        have d6' : 6 ≤ E.other := by omega
                        clear ho6
                        go_wp2
                        go_ret
                        exact ⟨ret_int HN.out.symm, G3.out.low⟩
                    · have HN := hide (show percL L (b : Int) E.kind E.room E.actor E.other = 3 by rw [HT.out, amg_no (by omega)]; simp)
                      go_wp2
                      go_ret
                      exact ⟨ret_int HN.out.symm, G3.out.low⟩
        · have er : (L.room b != E.room) = true := by simp [hr]
          have HN := hide (perc_told (other := E.other) (kind := E.kind) (room := E.room) HA.out HNE.out (.inr (by rw [Int.toNat_natCast]; exact hr)))
          clear hr
          go_enter Tryz.func81, Tryz.ntmps81
          go_wp2_with (refine wl_land (.tmp 3) rfl rfl _ L rfl P0.out.cod ?_)
          refine (about_any L (b : Int) _).mono ?_
          rintro e w1 ⟨rfl, hb⟩
          have G1 := hide (P0.out.call hb)
          rw [HA.out]
          have k0 := G1.out.cev.kind
          have k1 := G1.out.cev.room
          have k2 := G1.out.cev.actor
          have kr : w1.cell? ⟨w.heap.size, 129 + b * 6 + 3, none⟩ = some (.int .i64 (L.room b)) := G1.out.cod.being b 3 (by omega) (by omega)
          clear hb
          go_wp2_with fail
          go_region
          all_goals go_wp2
          all_goals go_ret
          all_goals exact ⟨ret_int HN.out.symm, G1.out.drew.low⟩

set_option maxRecDepth 100000 in
set_option maxHeartbeats 1000000 in
theorem everybody_any (L : Ld) (E : Ev) (w : World) :
    Calls Tryz.prog 55 #[.agg L.cells, .agg E.cells] w fun e w' => e = .returned (.agg (allE L E).cells) ∧ Below w.heap.size w w' := by
  go_enter Tryz.func55, Tryz.ntmps55
  go_wp2
  go_loopw [6] (fun c wr => ∃ k : Nat, k ≤ 6 ∧ c = .int .i64 k ∧ AvRel L E k w wr) (fun c _ => 6 - (intOf c).toNat)
  case atStart => exact ⟨0, by omega, rfl, av_start L E w _ rfl⟩
  case round =>
    obtain ⟨k, hle, rfl, R⟩ := hrel
    have HR := hide R
    clear R
    by_cases hk : k < 6
    · have C := hide (fun W => perceived_any L (k : Int) (allK L E k) W)
      go_wp2_with (first | (refine wl_land (.tmp 2) rfl rfl _ L rfl HR.out.pv.cod ?_) | (refine wl_event (.tmp 3) rfl rfl _ (allK L E k) rfl HR.out.pv.cev ?_))
      refine (C.out _).mono ?_
      rintro e w1 ⟨rfl, hb⟩
      have R1 := hide (HR.out.call hb)
      have hc := R1.out.pv.cev.by' k hk
      have hf := R1.out.pv.cev.frozen (10 + k)
      clear hb C
      have N := hide (R1.out.put hk)
      have hp : Hid (percL L (k : Int) (allK L E k).kind (allK L E k).room (allK L E k).actor (allK L E k).other = percL L (k : Int) E.kind E.room E.actor E.other) := rfl
      rw [hp.out]
      go_wp2
      go_roundw
      case rel => exact ⟨k + 1, by omega, by go_num, N.out⟩
      case measure => simp [intOf]; omega
    · have hk6 : k = 6 := by omega
      subst hk6
      have HC := hide (HR.out.pv.cev.same (allK_all L E))
      obtain ⟨z, hz, hr⟩ := HR.out.res
      have HZ := hide hr
      have HS := hide hz
      clear hz hr
      go_wp2_with (first | (refine wl_event (.tmp 3) rfl rfl _ (allE L E) rfl HC.out ?_) | (refine wl_row 62 (.tmp 4) (.tmp 17) rfl rfl (w.heap.size + 2) (allE L E).cells rfl rfl 62 z HZ.out ?s1 ?s2 (Ev.one _) ?_))
      case s1 => rw [Ev.size]; exact Tryz.sizeEvent
      case s2 => rw [Ev.size]; exact HS.out
      refine bodyPost_ret (v := .agg (allE L E).cells) (results_cell_row rfl _ _ (w.heap.size + 2) 62 (allE L E).cells (0, 0) _ rfl (setRow_heap wr (w.heap.size + 2) _ _ _ _ HZ.out) Tryz.underlying62 rfl (by rw [Ev.size]; exact Tryz.sizeEvent)) rfl ⟨rfl, below_setRow HR.out.pv.low (by omega) _⟩
end Go.Proofs.YtaifjndkgfffpaaGreatDoor
