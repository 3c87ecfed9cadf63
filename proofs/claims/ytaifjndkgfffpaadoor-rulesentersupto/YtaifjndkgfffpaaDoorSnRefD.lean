/-
  The document's own IsSeen: its contract.
-/
import Derived.Test.YtaifjndkgfffpaaDoorMgN
import Derived.Test.YtaifjndkgfffpaaDoorMgD
namespace Go.Proofs.YtaifjndkgfffpaaDoor
open Go.RowKit
set_option linter.unusedVariables false

set_option maxRecDepth 100000 in
set_option maxHeartbeats 2000000 in
theorem isseen_any (L : Ld) (a b : Int) (w : World) :
    Calls Tryd.prog 51 #[.agg L.cells, .int .i64 a, .int .i64 b] w fun e w' => e = .returned (.bool (seesL L a b)) ∧ Below w.heap.size w w' := by
  cases ha : abtL L a with
  | false =>
    have HV := hide (sees_not (b := b) (.inl ha))
    have HA := hide ha
    clear ha
    go_enter Tryd.func51, Tryd.ntmps51
    go_wp2_with (refine wl_land (.tmp 3) rfl rfl _ L rfl (cod_new w L) ?_)
    refine (about_any L a _).mono ?_
    rintro e w1 ⟨rfl, hb⟩
    have G1 := hide ((gd_start L w).call hb)
    rw [HA.out]
    clear hb
    go_wp2
    go_ret
    exact ⟨ret_bool HV.out.symm, G1.out.low⟩
  | true =>
    cases hB : abtL L b with
    | false =>
      have HV := hide (sees_not (a := a) (.inr hB))
      have HA := hide ha
      have HB := hide hB
      clear ha hB
      go_enter Tryd.func51, Tryd.ntmps51
      go_wp2_with (refine wl_land (.tmp 3) rfl rfl _ L rfl (cod_new w L) ?_)
      refine (about_any L a _).mono ?_
      rintro e w1 ⟨rfl, hb⟩
      have G1 := hide ((gd_start L w).call hb)
      rw [HA.out]
      clear hb
      go_wp2_with (refine wl_land (.tmp 3) rfl rfl _ L rfl G1.out.cod ?_)
      refine (about_any L b _).mono ?_
      rintro e w2 ⟨rfl, hb⟩
      have G2 := hide (G1.out.call hb)
      rw [HB.out]
      clear hb
      go_wp2
      go_ret
      exact ⟨ret_bool HV.out.symm, G2.out.low⟩
    | true =>
      have HA := hide ha
      have HB := hide hB
      have pa : amg a 6 = true := by simp only [abtL, Bool.and_eq_true] at ha; exact ha.1
      have pb : amg b 6 = true := by simp only [abtL, Bool.and_eq_true] at hB; exact hB.1
      obtain ⟨a0, a6⟩ := amg_pos pa
      obtain ⟨b0, b6⟩ := amg_pos pb
      obtain ⟨x, rfl⟩ := Int.eq_ofNat_of_zero_le a0
      obtain ⟨y, rfl⟩ := Int.eq_ofNat_of_zero_le b0
      by_cases hab : (x : Int) = (y : Int)
      · have HN := hide (show seesL L (x : Int) (y : Int) = true by rw [← hab, sees_self, ha])
        have fab : ((x : Int) == (y : Int)) = true := by simp [hab]
        clear ha hB pa pb hab
        go_enter Tryd.func51, Tryd.ntmps51
        go_wp2_with (refine wl_land (.tmp 3) rfl rfl _ L rfl (cod_new w L) ?_)
        refine (about_any L (x : Int) _).mono ?_
        rintro e w1 ⟨rfl, hb⟩
        have G1 := hide ((gd_start L w).call hb)
        rw [HA.out]
        clear hb
        go_wp2_with (refine wl_land (.tmp 3) rfl rfl _ L rfl G1.out.cod ?_)
        refine (about_any L (y : Int) _).mono ?_
        rintro e w2 ⟨rfl, hb⟩
        have G2 := hide (G1.out.call hb)
        rw [HB.out]
        clear hb
        have G2d : GdRel L w w2.drew := G2.out.drew
        go_wp2_with fail
        refine wp_region_held (S := fun W => GdRel L w W) (by kernel_rfl) ?_
        refine take_at (i := 0) (d := some 17) (fuel := 38) (v := ?_) rfl rfl (by kernel_rfl) (by kernel_rfl) (by kernel_rfl) (fun _ _ _ h => h) (Or.inl ⟨by rfl, ?_⟩) G2d ?_
        rotate_left
        · intro W hW
          have c1 : W.cell? ⟨w.heap.size, 129 + x * 6 + 3, none⟩ = some (.int .i64 (L.room x)) := hW.cod.being x 3 (by omega) (by omega)
          have c2 : W.cell? ⟨w.heap.size, 129 + y * 6 + 3, none⟩ = some (.int .i64 (L.room y)) := hW.cod.being y 3 (by omega) (by omega)
          have c3 : W.cell? ⟨w.heap.size, 129 + x * 6 + 2, none⟩ = some (.bool (L.keen x)) := hW.cod.being x 2 (by omega) (by omega)
          go_simp
          try with_reducible rfl
        simp only [Act.put, List.setIfInBounds_toArray, List.set]
        refine take_at (i := 1) (d := some 18) (fuel := 37) (v := ?_) rfl rfl (by kernel_rfl) (by kernel_rfl) (by kernel_rfl) (fun _ _ _ h => h) (Or.inl ⟨by rfl, ?_⟩) G2d ?_
        rotate_left
        · intro W hW
          have c1 : W.cell? ⟨w.heap.size, 129 + x * 6 + 3, none⟩ = some (.int .i64 (L.room x)) := hW.cod.being x 3 (by omega) (by omega)
          have c2 : W.cell? ⟨w.heap.size, 129 + y * 6 + 3, none⟩ = some (.int .i64 (L.room y)) := hW.cod.being y 3 (by omega) (by omega)
          have c3 : W.cell? ⟨w.heap.size, 129 + x * 6 + 2, none⟩ = some (.bool (L.keen x)) := hW.cod.being x 2 (by omega) (by omega)
          go_simp
          try with_reducible rfl
        simp only [Act.put, List.setIfInBounds_toArray, List.set]
        refine take_at (i := 2) (d := some 19) (fuel := 36) (v := ?_) rfl rfl (by kernel_rfl) (by kernel_rfl) (by kernel_rfl) (fun _ _ _ h => h) (Or.inl ⟨by rfl, ?_⟩) G2d ?_
        rotate_left
        · intro W hW
          have c1 : W.cell? ⟨w.heap.size, 129 + x * 6 + 3, none⟩ = some (.int .i64 (L.room x)) := hW.cod.being x 3 (by omega) (by omega)
          have c2 : W.cell? ⟨w.heap.size, 129 + y * 6 + 3, none⟩ = some (.int .i64 (L.room y)) := hW.cod.being y 3 (by omega) (by omega)
          have c3 : W.cell? ⟨w.heap.size, 129 + x * 6 + 2, none⟩ = some (.bool (L.keen x)) := hW.cod.being x 2 (by omega) (by omega)
          go_simp
          try with_reducible rfl
        simp only [Act.put, List.setIfInBounds_toArray, List.set]
        refine take_at (i := 3) (d := some 20) (fuel := 35) (v := ?_) rfl rfl (by kernel_rfl) (by kernel_rfl) (by kernel_rfl) (fun _ _ _ h => h) (Or.inl ⟨by rfl, ?_⟩) G2d ?_
        rotate_left
        · intro W hW
          have c1 : W.cell? ⟨w.heap.size, 129 + x * 6 + 3, none⟩ = some (.int .i64 (L.room x)) := hW.cod.being x 3 (by omega) (by omega)
          have c2 : W.cell? ⟨w.heap.size, 129 + y * 6 + 3, none⟩ = some (.int .i64 (L.room y)) := hW.cod.being y 3 (by omega) (by omega)
          have c3 : W.cell? ⟨w.heap.size, 129 + x * 6 + 2, none⟩ = some (.bool (L.keen x)) := hW.cod.being x 2 (by omega) (by omega)
          go_simp
          try with_reducible rfl
        simp only [Act.put, List.setIfInBounds_toArray, List.set]
        refine take_at (i := 4) (d := some 21) (fuel := 34) (v := undef) rfl rfl (by kernel_rfl) (by kernel_rfl) (by kernel_rfl) (fun _ _ _ h => h) (Or.inr ⟨by rfl, rfl⟩) G2d ?_
        simp only [Act.put, List.setIfInBounds_toArray, List.set]
        refine take_at (i := 5) (d := some 22) (fuel := 33) (v := undef) rfl rfl (by kernel_rfl) (by kernel_rfl) (by kernel_rfl) (fun _ _ _ h => h) (Or.inr ⟨by rfl, rfl⟩) G2d ?_
        simp only [Act.put, List.setIfInBounds_toArray, List.set]
        refine take_at (i := 6) (d := some 23) (fuel := 32) (v := undef) rfl rfl (by kernel_rfl) (by kernel_rfl) (by kernel_rfl) (fun _ _ _ h => h) (Or.inr ⟨by rfl, rfl⟩) G2d ?_
        simp only [Act.put, List.setIfInBounds_toArray, List.set]
        refine take_at (i := 7) (d := some 24) (fuel := 31) (v := undef) rfl rfl (by kernel_rfl) (by kernel_rfl) (by kernel_rfl) (fun _ _ _ h => h) (Or.inr ⟨by rfl, rfl⟩) G2d ?_
        simp only [Act.put, List.setIfInBounds_toArray, List.set]
        refine take_at (i := 8) (d := some 25) (fuel := 30) (v := undef) rfl rfl (by kernel_rfl) (by kernel_rfl) (by kernel_rfl) (fun _ _ _ h => h) (Or.inr ⟨by rfl, rfl⟩) G2d ?_
        simp only [Act.put, List.setIfInBounds_toArray, List.set]
        refine take_at (i := 9) (d := some 26) (fuel := 29) (v := undef) rfl rfl (by kernel_rfl) (by kernel_rfl) (by kernel_rfl) (fun _ _ _ h => h) (Or.inr ⟨by rfl, rfl⟩) G2d ?_
        simp only [Act.put, List.setIfInBounds_toArray, List.set]
        refine take_at (i := 10) (d := some 27) (fuel := 28) (v := undef) rfl rfl (by kernel_rfl) (by kernel_rfl) (by kernel_rfl) (fun _ _ _ h => h) (Or.inr ⟨by rfl, rfl⟩) G2d ?_
        simp only [Act.put, List.setIfInBounds_toArray, List.set]
        refine take_at (i := 11) (d := some 28) (fuel := 27) (v := undef) rfl rfl (by kernel_rfl) (by kernel_rfl) (by kernel_rfl) (fun _ _ _ h => h) (Or.inr ⟨by rfl, rfl⟩) G2d ?_
        simp only [Act.put, List.setIfInBounds_toArray, List.set]
        refine take_at (i := 12) (d := some 29) (fuel := 26) (v := undef) rfl rfl (by kernel_rfl) (by kernel_rfl) (by kernel_rfl) (fun _ _ _ h => h) (Or.inr ⟨by rfl, rfl⟩) G2d ?_
        simp only [Act.put, List.setIfInBounds_toArray, List.set]
        refine take_at (i := 13) (d := some 30) (fuel := 25) (v := undef) rfl rfl (by kernel_rfl) (by kernel_rfl) (by kernel_rfl) (fun _ _ _ h => h) (Or.inr ⟨by rfl, rfl⟩) G2d ?_
        simp only [Act.put, List.setIfInBounds_toArray, List.set]
        refine take_at (i := 14) (d := some 31) (fuel := 24) (v := undef) rfl rfl (by kernel_rfl) (by kernel_rfl) (by kernel_rfl) (fun _ _ _ h => h) (Or.inr ⟨by rfl, rfl⟩) G2d ?_
        simp only [Act.put, List.setIfInBounds_toArray, List.set]
        refine take_at (i := 15) (d := some 32) (fuel := 23) (v := undef) rfl rfl (by kernel_rfl) (by kernel_rfl) (by kernel_rfl) (fun _ _ _ h => h) (Or.inr ⟨by rfl, rfl⟩) G2d ?_
        simp only [Act.put, List.setIfInBounds_toArray, List.set]
        refine take_at (i := 16) (d := some 33) (fuel := 22) (v := undef) rfl rfl (by kernel_rfl) (by kernel_rfl) (by kernel_rfl) (fun _ _ _ h => h) (Or.inr ⟨by rfl, rfl⟩) G2d ?_
        simp only [Act.put, List.setIfInBounds_toArray, List.set]
        refine take_at (i := 17) (d := some 34) (fuel := 21) (v := undef) rfl rfl (by kernel_rfl) (by kernel_rfl) (by kernel_rfl) (fun _ _ _ h => h) (Or.inr ⟨by rfl, rfl⟩) G2d ?_
        simp only [Act.put, List.setIfInBounds_toArray, List.set]
        refine take_at (i := 18) (d := some 35) (fuel := 20) (v := undef) rfl rfl (by kernel_rfl) (by kernel_rfl) (by kernel_rfl) (fun _ _ _ h => h) (Or.inr ⟨by rfl, rfl⟩) G2d ?_
        simp only [Act.put, List.setIfInBounds_toArray, List.set]
        refine take_at (i := 19) (d := some 36) (fuel := 19) (v := undef) rfl rfl (by kernel_rfl) (by kernel_rfl) (by kernel_rfl) (fun _ _ _ h => h) (Or.inr ⟨by rfl, rfl⟩) G2d ?_
        simp only [Act.put, List.setIfInBounds_toArray, List.set]
        refine take_at (i := 20) (d := some 37) (fuel := 18) (v := undef) rfl rfl (by kernel_rfl) (by kernel_rfl) (by kernel_rfl) (fun _ _ _ h => h) (Or.inr ⟨by rfl, rfl⟩) G2d ?_
        simp only [Act.put, List.setIfInBounds_toArray, List.set]
        refine take_at (i := 21) (d := some 38) (fuel := 17) (v := undef) rfl rfl (by kernel_rfl) (by kernel_rfl) (by kernel_rfl) (fun _ _ _ h => h) (Or.inr ⟨by rfl, rfl⟩) G2d ?_
        simp only [Act.put, List.setIfInBounds_toArray, List.set]
        refine take_at (i := 22) (d := some 39) (fuel := 16) (v := undef) rfl rfl (by kernel_rfl) (by kernel_rfl) (by kernel_rfl) (fun _ _ _ h => h) (Or.inr ⟨by rfl, rfl⟩) G2d ?_
        simp only [Act.put, List.setIfInBounds_toArray, List.set]
        refine take_at (i := 23) (d := some 40) (fuel := 15) (v := undef) rfl rfl (by kernel_rfl) (by kernel_rfl) (by kernel_rfl) (fun _ _ _ h => h) (Or.inr ⟨by rfl, rfl⟩) G2d ?_
        simp only [Act.put, List.setIfInBounds_toArray, List.set]
        refine take_at (i := 24) (d := some 41) (fuel := 14) (v := undef) rfl rfl (by kernel_rfl) (by kernel_rfl) (by kernel_rfl) (fun _ _ _ h => h) (Or.inr ⟨by rfl, rfl⟩) G2d ?_
        simp only [Act.put, List.setIfInBounds_toArray, List.set]
        refine take_at (i := 25) (d := some 42) (fuel := 13) (v := undef) rfl rfl (by kernel_rfl) (by kernel_rfl) (by kernel_rfl) (fun _ _ _ h => h) (Or.inr ⟨by rfl, rfl⟩) G2d ?_
        simp only [Act.put, List.setIfInBounds_toArray, List.set]
        refine take_at (i := 26) (d := some 43) (fuel := 12) (v := undef) rfl rfl (by kernel_rfl) (by kernel_rfl) (by kernel_rfl) (fun _ _ _ h => h) (Or.inr ⟨by rfl, rfl⟩) G2d ?_
        simp only [Act.put, List.setIfInBounds_toArray, List.set]
        refine take_at (i := 27) (d := some 44) (fuel := 11) (v := undef) rfl rfl (by kernel_rfl) (by kernel_rfl) (by kernel_rfl) (fun _ _ _ h => h) (Or.inr ⟨by rfl, rfl⟩) G2d ?_
        simp only [Act.put, List.setIfInBounds_toArray, List.set]
        refine take_at (i := 28) (d := some 45) (fuel := 10) (v := undef) rfl rfl (by kernel_rfl) (by kernel_rfl) (by kernel_rfl) (fun _ _ _ h => h) (Or.inr ⟨by rfl, rfl⟩) G2d ?_
        simp only [Act.put, List.setIfInBounds_toArray, List.set]
        refine take_at (i := 29) (d := some 46) (fuel := 9) (v := undef) rfl rfl (by kernel_rfl) (by kernel_rfl) (by kernel_rfl) (fun _ _ _ h => h) (Or.inr ⟨by rfl, rfl⟩) G2d ?_
        simp only [Act.put, List.setIfInBounds_toArray, List.set]
        refine take_at (i := 30) (d := some 47) (fuel := 8) (v := undef) rfl rfl (by kernel_rfl) (by kernel_rfl) (by kernel_rfl) (fun _ _ _ h => h) (Or.inr ⟨by rfl, rfl⟩) G2d ?_
        simp only [Act.put, List.setIfInBounds_toArray, List.set]
        refine take_at (i := 31) (d := some 48) (fuel := 7) (v := undef) rfl rfl (by kernel_rfl) (by kernel_rfl) (by kernel_rfl) (fun _ _ _ h => h) (Or.inr ⟨by rfl, rfl⟩) G2d ?_
        simp only [Act.put, List.setIfInBounds_toArray, List.set]
        refine take_at (i := 32) (d := some 49) (fuel := 6) (v := undef) rfl rfl (by kernel_rfl) (by kernel_rfl) (by kernel_rfl) (fun _ _ _ h => h) (Or.inr ⟨by rfl, rfl⟩) G2d ?_
        simp only [Act.put, List.setIfInBounds_toArray, List.set]
        refine take_at (i := 33) (d := some 50) (fuel := 5) (v := undef) rfl rfl (by kernel_rfl) (by kernel_rfl) (by kernel_rfl) (fun _ _ _ h => h) (Or.inr ⟨by rfl, rfl⟩) G2d ?_
        simp only [Act.put, List.setIfInBounds_toArray, List.set]
        refine take_at (i := 34) (d := some 51) (fuel := 4) (v := undef) rfl rfl (by kernel_rfl) (by kernel_rfl) (by kernel_rfl) (fun _ _ _ h => h) (Or.inr ⟨by rfl, rfl⟩) G2d ?_
        simp only [Act.put, List.setIfInBounds_toArray, List.set]
        refine take_at (i := 35) (d := some 52) (fuel := 3) (v := undef) rfl rfl (by kernel_rfl) (by kernel_rfl) (by kernel_rfl) (fun _ _ _ h => h) (Or.inr ⟨by rfl, rfl⟩) G2d ?_
        simp only [Act.put, List.setIfInBounds_toArray, List.set]
        refine take_at (i := 36) (d := some 53) (fuel := 2) (v := undef) rfl rfl (by kernel_rfl) (by kernel_rfl) (by kernel_rfl) (fun _ _ _ h => h) (Or.inr ⟨by rfl, rfl⟩) G2d ?_
        simp only [Act.put, List.setIfInBounds_toArray, List.set]
        refine take_at (i := 37) (d := some 54) (fuel := 1) (v := ?_) rfl rfl (by kernel_rfl) (by kernel_rfl) (by kernel_rfl) (fun _ _ _ h => h) (Or.inl ⟨by rfl, ?_⟩) G2d ?_
        rotate_left
        · intro W hW
          have c1 : W.cell? ⟨w.heap.size, 129 + x * 6 + 3, none⟩ = some (.int .i64 (L.room x)) := hW.cod.being x 3 (by omega) (by omega)
          have c2 : W.cell? ⟨w.heap.size, 129 + y * 6 + 3, none⟩ = some (.int .i64 (L.room y)) := hW.cod.being y 3 (by omega) (by omega)
          have c3 : W.cell? ⟨w.heap.size, 129 + x * 6 + 2, none⟩ = some (.bool (L.keen x)) := hW.cod.being x 2 (by omega) (by omega)
          go_simp
          try with_reducible rfl
        simp only [Act.put, List.setIfInBounds_toArray, List.set]
        refine take_at (i := 38) (d := some 6) (fuel := 0) (v := ?_) rfl rfl (by kernel_rfl) (by kernel_rfl) (by kernel_rfl) (fun _ _ _ h => h) (Or.inl ⟨by rfl, ?_⟩) G2d ?_
        rotate_left
        · intro W hW
          have c1 : W.cell? ⟨w.heap.size, 129 + x * 6 + 3, none⟩ = some (.int .i64 (L.room x)) := hW.cod.being x 3 (by omega) (by omega)
          have c2 : W.cell? ⟨w.heap.size, 129 + y * 6 + 3, none⟩ = some (.int .i64 (L.room y)) := hW.cod.being y 3 (by omega) (by omega)
          have c3 : W.cell? ⟨w.heap.size, 129 + x * 6 + 2, none⟩ = some (.bool (L.keen x)) := hW.cod.being x 2 (by omega) (by omega)
          go_simp
          try with_reducible rfl
        simp only [Act.put, List.setIfInBounds_toArray, List.set]
        refine wpAnyH_done (by kernel_rfl) ?_ _
        go_wp2
        go_ret
        exact ⟨ret_bool HN.out.symm, G2d.low⟩
      · have HV0 := sees_if ha hB hab
        rw [Int.toNat_natCast, Int.toNat_natCast] at HV0
        have HV := hide HV0
        have fab : ((x : Int) == (y : Int)) = false := by simp [hab]
        clear ha hB pa pb hab HV0
        by_cases hr : L.room x = L.room y
        · have fr : (L.room x == L.room y) = true := by simp [hr]
          have HV2 := hide (show seesL L (x : Int) (y : Int) = (brightL L (L.room y) && (!hiddenL L (y : Int) || L.keen x)) by rw [HV.out, decide_eq_true hr]; simp)
          clear hr
          cases hbr : brightL L (L.room y) with
          | false =>
            have HN := hide (show seesL L (x : Int) (y : Int) = false by rw [HV2.out, hbr]; rfl)
            go_enter Tryd.func51, Tryd.ntmps51
            go_wp2_with (refine wl_land (.tmp 3) rfl rfl _ L rfl (cod_new w L) ?_)
            refine (about_any L (x : Int) _).mono ?_
            rintro e w1 ⟨rfl, hb⟩
            have G1 := hide ((gd_start L w).call hb)
            rw [HA.out]
            clear hb
            go_wp2_with (refine wl_land (.tmp 3) rfl rfl _ L rfl G1.out.cod ?_)
            refine (about_any L (y : Int) _).mono ?_
            rintro e w2 ⟨rfl, hb⟩
            have G2 := hide (G1.out.call hb)
            rw [HB.out]
            clear hb
            have G2d : GdRel L w w2.drew := G2.out.drew
            go_wp2_with fail
            refine wp_region_held (S := fun W => GdRel L w W) (by kernel_rfl) ?_
            refine take_at (i := 0) (d := some 17) (fuel := 38) (v := ?_) rfl rfl (by kernel_rfl) (by kernel_rfl) (by kernel_rfl) (fun _ _ _ h => h) (Or.inl ⟨by rfl, ?_⟩) G2d ?_
            rotate_left
            · intro W hW
              have c1 : W.cell? ⟨w.heap.size, 129 + x * 6 + 3, none⟩ = some (.int .i64 (L.room x)) := hW.cod.being x 3 (by omega) (by omega)
              have c2 : W.cell? ⟨w.heap.size, 129 + y * 6 + 3, none⟩ = some (.int .i64 (L.room y)) := hW.cod.being y 3 (by omega) (by omega)
              have c3 : W.cell? ⟨w.heap.size, 129 + x * 6 + 2, none⟩ = some (.bool (L.keen x)) := hW.cod.being x 2 (by omega) (by omega)
              go_simp
              try with_reducible rfl
            simp only [Act.put, List.setIfInBounds_toArray, List.set]
            refine take_at (i := 1) (d := some 18) (fuel := 37) (v := ?_) rfl rfl (by kernel_rfl) (by kernel_rfl) (by kernel_rfl) (fun _ _ _ h => h) (Or.inl ⟨by rfl, ?_⟩) G2d ?_
            rotate_left
            · intro W hW
              have c1 : W.cell? ⟨w.heap.size, 129 + x * 6 + 3, none⟩ = some (.int .i64 (L.room x)) := hW.cod.being x 3 (by omega) (by omega)
              have c2 : W.cell? ⟨w.heap.size, 129 + y * 6 + 3, none⟩ = some (.int .i64 (L.room y)) := hW.cod.being y 3 (by omega) (by omega)
              have c3 : W.cell? ⟨w.heap.size, 129 + x * 6 + 2, none⟩ = some (.bool (L.keen x)) := hW.cod.being x 2 (by omega) (by omega)
              go_simp
              try with_reducible rfl
            simp only [Act.put, List.setIfInBounds_toArray, List.set]
            refine take_at (i := 2) (d := some 19) (fuel := 36) (v := ?_) rfl rfl (by kernel_rfl) (by kernel_rfl) (by kernel_rfl) (fun _ _ _ h => h) (Or.inl ⟨by rfl, ?_⟩) G2d ?_
            rotate_left
            · intro W hW
              have c1 : W.cell? ⟨w.heap.size, 129 + x * 6 + 3, none⟩ = some (.int .i64 (L.room x)) := hW.cod.being x 3 (by omega) (by omega)
              have c2 : W.cell? ⟨w.heap.size, 129 + y * 6 + 3, none⟩ = some (.int .i64 (L.room y)) := hW.cod.being y 3 (by omega) (by omega)
              have c3 : W.cell? ⟨w.heap.size, 129 + x * 6 + 2, none⟩ = some (.bool (L.keen x)) := hW.cod.being x 2 (by omega) (by omega)
              go_simp
              try with_reducible rfl
            simp only [Act.put, List.setIfInBounds_toArray, List.set]
            refine take_at (i := 3) (d := some 20) (fuel := 35) (v := ?_) rfl rfl (by kernel_rfl) (by kernel_rfl) (by kernel_rfl) (fun _ _ _ h => h) (Or.inl ⟨by rfl, ?_⟩) G2d ?_
            rotate_left
            · intro W hW
              have c1 : W.cell? ⟨w.heap.size, 129 + x * 6 + 3, none⟩ = some (.int .i64 (L.room x)) := hW.cod.being x 3 (by omega) (by omega)
              have c2 : W.cell? ⟨w.heap.size, 129 + y * 6 + 3, none⟩ = some (.int .i64 (L.room y)) := hW.cod.being y 3 (by omega) (by omega)
              have c3 : W.cell? ⟨w.heap.size, 129 + x * 6 + 2, none⟩ = some (.bool (L.keen x)) := hW.cod.being x 2 (by omega) (by omega)
              go_simp
              try with_reducible rfl
            simp only [Act.put, List.setIfInBounds_toArray, List.set]
            refine take_at (i := 4) (d := some 21) (fuel := 34) (v := ?_) rfl rfl (by kernel_rfl) (by kernel_rfl) (by kernel_rfl) (fun _ _ _ h => h) (Or.inl ⟨by rfl, ?_⟩) G2d ?_
            rotate_left
            · intro W hW
              have c1 : W.cell? ⟨w.heap.size, 129 + x * 6 + 3, none⟩ = some (.int .i64 (L.room x)) := hW.cod.being x 3 (by omega) (by omega)
              have c2 : W.cell? ⟨w.heap.size, 129 + y * 6 + 3, none⟩ = some (.int .i64 (L.room y)) := hW.cod.being y 3 (by omega) (by omega)
              have c3 : W.cell? ⟨w.heap.size, 129 + x * 6 + 2, none⟩ = some (.bool (L.keen x)) := hW.cod.being x 2 (by omega) (by omega)
              go_simp
              try with_reducible rfl
            simp only [Act.put, List.setIfInBounds_toArray, List.set]
            refine take_at (i := 5) (d := some 22) (fuel := 33) (v := ?_) rfl rfl (by kernel_rfl) (by kernel_rfl) (by kernel_rfl) (fun _ _ _ h => h) (Or.inl ⟨by rfl, ?_⟩) G2d ?_
            rotate_left
            · intro W hW
              have c1 : W.cell? ⟨w.heap.size, 129 + x * 6 + 3, none⟩ = some (.int .i64 (L.room x)) := hW.cod.being x 3 (by omega) (by omega)
              have c2 : W.cell? ⟨w.heap.size, 129 + y * 6 + 3, none⟩ = some (.int .i64 (L.room y)) := hW.cod.being y 3 (by omega) (by omega)
              have c3 : W.cell? ⟨w.heap.size, 129 + x * 6 + 2, none⟩ = some (.bool (L.keen x)) := hW.cod.being x 2 (by omega) (by omega)
              go_simp
              try with_reducible rfl
            simp only [Act.put, List.setIfInBounds_toArray, List.set]
            refine take_at (i := 6) (d := some 23) (fuel := 32) (v := ?_) rfl rfl (by kernel_rfl) (by kernel_rfl) (by kernel_rfl) (fun _ _ _ h => h) (Or.inl ⟨by rfl, ?_⟩) G2d ?_
            rotate_left
            · intro W hW
              have c1 : W.cell? ⟨w.heap.size, 129 + x * 6 + 3, none⟩ = some (.int .i64 (L.room x)) := hW.cod.being x 3 (by omega) (by omega)
              have c2 : W.cell? ⟨w.heap.size, 129 + y * 6 + 3, none⟩ = some (.int .i64 (L.room y)) := hW.cod.being y 3 (by omega) (by omega)
              have c3 : W.cell? ⟨w.heap.size, 129 + x * 6 + 2, none⟩ = some (.bool (L.keen x)) := hW.cod.being x 2 (by omega) (by omega)
              go_simp
              try with_reducible rfl
            simp only [Act.put, List.setIfInBounds_toArray, List.set]
            refine take_at (i := 7) (d := some 24) (fuel := 31) (v := ?_) rfl rfl (by kernel_rfl) (by kernel_rfl) (by kernel_rfl) (fun _ _ _ h => h) (Or.inl ⟨by rfl, ?_⟩) G2d ?_
            rotate_left
            · intro W hW
              have c1 : W.cell? ⟨w.heap.size, 129 + x * 6 + 3, none⟩ = some (.int .i64 (L.room x)) := hW.cod.being x 3 (by omega) (by omega)
              have c2 : W.cell? ⟨w.heap.size, 129 + y * 6 + 3, none⟩ = some (.int .i64 (L.room y)) := hW.cod.being y 3 (by omega) (by omega)
              have c3 : W.cell? ⟨w.heap.size, 129 + x * 6 + 2, none⟩ = some (.bool (L.keen x)) := hW.cod.being x 2 (by omega) (by omega)
              go_simp
              try with_reducible rfl
            simp only [Act.put, List.setIfInBounds_toArray, List.set]
            refine take_at (i := 8) (d := some 25) (fuel := 30) (v := ?_) rfl rfl (by kernel_rfl) (by kernel_rfl) (by kernel_rfl) (fun _ _ _ h => h) (Or.inl ⟨by rfl, ?_⟩) G2d ?_
            rotate_left
            · intro W hW
              have c1 : W.cell? ⟨w.heap.size, 129 + x * 6 + 3, none⟩ = some (.int .i64 (L.room x)) := hW.cod.being x 3 (by omega) (by omega)
              have c2 : W.cell? ⟨w.heap.size, 129 + y * 6 + 3, none⟩ = some (.int .i64 (L.room y)) := hW.cod.being y 3 (by omega) (by omega)
              have c3 : W.cell? ⟨w.heap.size, 129 + x * 6 + 2, none⟩ = some (.bool (L.keen x)) := hW.cod.being x 2 (by omega) (by omega)
              go_simp
              try with_reducible rfl
            simp only [Act.put, List.setIfInBounds_toArray, List.set]
            refine take_at (i := 9) (d := some 26) (fuel := 29) (v := ?_) rfl rfl (by kernel_rfl) (by kernel_rfl) (by kernel_rfl) (fun _ _ _ h => h) (Or.inl ⟨by rfl, ?_⟩) G2d ?_
            rotate_left
            · intro W hW
              have c1 : W.cell? ⟨w.heap.size, 129 + x * 6 + 3, none⟩ = some (.int .i64 (L.room x)) := hW.cod.being x 3 (by omega) (by omega)
              have c2 : W.cell? ⟨w.heap.size, 129 + y * 6 + 3, none⟩ = some (.int .i64 (L.room y)) := hW.cod.being y 3 (by omega) (by omega)
              have c3 : W.cell? ⟨w.heap.size, 129 + x * 6 + 2, none⟩ = some (.bool (L.keen x)) := hW.cod.being x 2 (by omega) (by omega)
              go_simp
              try with_reducible rfl
            simp only [Act.put, List.setIfInBounds_toArray, List.set]
            refine take_at (i := 10) (d := some 27) (fuel := 28) (v := ?_) rfl rfl (by kernel_rfl) (by kernel_rfl) (by kernel_rfl) (fun _ _ _ h => h) (Or.inl ⟨by rfl, ?_⟩) G2d ?_
            rotate_left
            · intro W hW
              have c1 : W.cell? ⟨w.heap.size, 129 + x * 6 + 3, none⟩ = some (.int .i64 (L.room x)) := hW.cod.being x 3 (by omega) (by omega)
              have c2 : W.cell? ⟨w.heap.size, 129 + y * 6 + 3, none⟩ = some (.int .i64 (L.room y)) := hW.cod.being y 3 (by omega) (by omega)
              have c3 : W.cell? ⟨w.heap.size, 129 + x * 6 + 2, none⟩ = some (.bool (L.keen x)) := hW.cod.being x 2 (by omega) (by omega)
              go_simp
              try with_reducible rfl
            simp only [Act.put, List.setIfInBounds_toArray, List.set]
            refine take_at (i := 11) (d := some 28) (fuel := 27) (v := ?_) rfl rfl (by kernel_rfl) (by kernel_rfl) (by kernel_rfl) (fun _ _ _ h => h) (Or.inl ⟨by rfl, ?_⟩) G2d ?_
            rotate_left
            · intro W hW
              have c1 : W.cell? ⟨w.heap.size, 129 + x * 6 + 3, none⟩ = some (.int .i64 (L.room x)) := hW.cod.being x 3 (by omega) (by omega)
              have c2 : W.cell? ⟨w.heap.size, 129 + y * 6 + 3, none⟩ = some (.int .i64 (L.room y)) := hW.cod.being y 3 (by omega) (by omega)
              have c3 : W.cell? ⟨w.heap.size, 129 + x * 6 + 2, none⟩ = some (.bool (L.keen x)) := hW.cod.being x 2 (by omega) (by omega)
              go_simp
              try with_reducible rfl
            simp only [Act.put, List.setIfInBounds_toArray, List.set]
            refine take_at (i := 12) (d := some 29) (fuel := 26) (v := ?_) rfl rfl (by kernel_rfl) (by kernel_rfl) (by kernel_rfl) (fun _ _ _ h => h) (Or.inl ⟨by rfl, ?_⟩) G2d ?_
            rotate_left
            · intro W hW
              have c1 : W.cell? ⟨w.heap.size, 129 + x * 6 + 3, none⟩ = some (.int .i64 (L.room x)) := hW.cod.being x 3 (by omega) (by omega)
              have c2 : W.cell? ⟨w.heap.size, 129 + y * 6 + 3, none⟩ = some (.int .i64 (L.room y)) := hW.cod.being y 3 (by omega) (by omega)
              have c3 : W.cell? ⟨w.heap.size, 129 + x * 6 + 2, none⟩ = some (.bool (L.keen x)) := hW.cod.being x 2 (by omega) (by omega)
              go_simp
              try with_reducible rfl
            simp only [Act.put, List.setIfInBounds_toArray, List.set]
            refine take_at (i := 13) (d := some 30) (fuel := 25) (v := ?_) rfl rfl (by kernel_rfl) (by kernel_rfl) (by kernel_rfl) (fun _ _ _ h => h) (Or.inl ⟨by rfl, ?_⟩) G2d ?_
            rotate_left
            · intro W hW
              have c1 : W.cell? ⟨w.heap.size, 129 + x * 6 + 3, none⟩ = some (.int .i64 (L.room x)) := hW.cod.being x 3 (by omega) (by omega)
              have c2 : W.cell? ⟨w.heap.size, 129 + y * 6 + 3, none⟩ = some (.int .i64 (L.room y)) := hW.cod.being y 3 (by omega) (by omega)
              have c3 : W.cell? ⟨w.heap.size, 129 + x * 6 + 2, none⟩ = some (.bool (L.keen x)) := hW.cod.being x 2 (by omega) (by omega)
              go_simp
              try with_reducible rfl
            simp only [Act.put, List.setIfInBounds_toArray, List.set]
            refine take_at (i := 14) (d := some 31) (fuel := 24) (v := ?_) rfl rfl (by kernel_rfl) (by kernel_rfl) (by kernel_rfl) (fun _ _ _ h => h) (Or.inl ⟨by rfl, ?_⟩) G2d ?_
            rotate_left
            · intro W hW
              have c1 : W.cell? ⟨w.heap.size, 129 + x * 6 + 3, none⟩ = some (.int .i64 (L.room x)) := hW.cod.being x 3 (by omega) (by omega)
              have c2 : W.cell? ⟨w.heap.size, 129 + y * 6 + 3, none⟩ = some (.int .i64 (L.room y)) := hW.cod.being y 3 (by omega) (by omega)
              have c3 : W.cell? ⟨w.heap.size, 129 + x * 6 + 2, none⟩ = some (.bool (L.keen x)) := hW.cod.being x 2 (by omega) (by omega)
              go_simp
              try with_reducible rfl
            simp only [Act.put, List.setIfInBounds_toArray, List.set]
            refine take_at (i := 15) (d := some 32) (fuel := 23) (v := ?_) rfl rfl (by kernel_rfl) (by kernel_rfl) (by kernel_rfl) (fun _ _ _ h => h) (Or.inl ⟨by rfl, ?_⟩) G2d ?_
            rotate_left
            · intro W hW
              have c1 : W.cell? ⟨w.heap.size, 129 + x * 6 + 3, none⟩ = some (.int .i64 (L.room x)) := hW.cod.being x 3 (by omega) (by omega)
              have c2 : W.cell? ⟨w.heap.size, 129 + y * 6 + 3, none⟩ = some (.int .i64 (L.room y)) := hW.cod.being y 3 (by omega) (by omega)
              have c3 : W.cell? ⟨w.heap.size, 129 + x * 6 + 2, none⟩ = some (.bool (L.keen x)) := hW.cod.being x 2 (by omega) (by omega)
              go_simp
              try with_reducible rfl
            simp only [Act.put, List.setIfInBounds_toArray, List.set]
            refine take_at (i := 16) (d := some 33) (fuel := 22) (v := .agg L.cells) rfl rfl (by kernel_rfl) (by kernel_rfl) (by kernel_rfl) (fun _ _ _ h => h) (Or.inl ⟨by rfl, fun W hW => exec_land (.tmp 3) rfl w.heap.size rfl hW.cod⟩) G2d ?_
            simp only [Act.put, List.setIfInBounds_toArray, List.set]
            refine take_at (i := 17) (d := some 34) (fuel := 21) (v := ?_) rfl rfl (by kernel_rfl) (by kernel_rfl) (by kernel_rfl) (fun _ _ _ h => h) (Or.inl ⟨by rfl, ?_⟩) G2d ?_
            rotate_left
            · intro W hW
              have c1 : W.cell? ⟨w.heap.size, 129 + x * 6 + 3, none⟩ = some (.int .i64 (L.room x)) := hW.cod.being x 3 (by omega) (by omega)
              have c2 : W.cell? ⟨w.heap.size, 129 + y * 6 + 3, none⟩ = some (.int .i64 (L.room y)) := hW.cod.being y 3 (by omega) (by omega)
              have c3 : W.cell? ⟨w.heap.size, 129 + x * 6 + 2, none⟩ = some (.bool (L.keen x)) := hW.cod.being x 2 (by omega) (by omega)
              go_simp
              try with_reducible rfl
            simp only [Act.put, List.setIfInBounds_toArray, List.set]
            refine take_at (i := 18) (d := some 35) (fuel := 20) (v := ?_) rfl rfl (by kernel_rfl) (by kernel_rfl) (by kernel_rfl) (fun _ _ _ h => h) (Or.inl ⟨by rfl, ?_⟩) G2d ?_
            rotate_left
            · intro W hW
              have c1 : W.cell? ⟨w.heap.size, 129 + x * 6 + 3, none⟩ = some (.int .i64 (L.room x)) := hW.cod.being x 3 (by omega) (by omega)
              have c2 : W.cell? ⟨w.heap.size, 129 + y * 6 + 3, none⟩ = some (.int .i64 (L.room y)) := hW.cod.being y 3 (by omega) (by omega)
              have c3 : W.cell? ⟨w.heap.size, 129 + x * 6 + 2, none⟩ = some (.bool (L.keen x)) := hW.cod.being x 2 (by omega) (by omega)
              go_simp
              try with_reducible rfl
            simp only [Act.put, List.setIfInBounds_toArray, List.set]
            refine take_at (i := 19) (d := some 36) (fuel := 19) (v := ?_) rfl rfl (by kernel_rfl) (by kernel_rfl) (by kernel_rfl) (fun _ _ _ h => h) (Or.inl ⟨by rfl, ?_⟩) G2d ?_
            rotate_left
            · intro W hW
              have c1 : W.cell? ⟨w.heap.size, 129 + x * 6 + 3, none⟩ = some (.int .i64 (L.room x)) := hW.cod.being x 3 (by omega) (by omega)
              have c2 : W.cell? ⟨w.heap.size, 129 + y * 6 + 3, none⟩ = some (.int .i64 (L.room y)) := hW.cod.being y 3 (by omega) (by omega)
              have c3 : W.cell? ⟨w.heap.size, 129 + x * 6 + 2, none⟩ = some (.bool (L.keen x)) := hW.cod.being x 2 (by omega) (by omega)
              go_simp
              try with_reducible rfl
            simp only [Act.put, List.setIfInBounds_toArray, List.set]
            refine take_at (i := 20) (d := some 37) (fuel := 18) (v := ?_) rfl rfl (by kernel_rfl) (by kernel_rfl) (by kernel_rfl) (fun _ _ _ h => h) (Or.inl ⟨by rfl, ?_⟩) G2d ?_
            rotate_left
            · intro W hW
              have c1 : W.cell? ⟨w.heap.size, 129 + x * 6 + 3, none⟩ = some (.int .i64 (L.room x)) := hW.cod.being x 3 (by omega) (by omega)
              have c2 : W.cell? ⟨w.heap.size, 129 + y * 6 + 3, none⟩ = some (.int .i64 (L.room y)) := hW.cod.being y 3 (by omega) (by omega)
              have c3 : W.cell? ⟨w.heap.size, 129 + x * 6 + 2, none⟩ = some (.bool (L.keen x)) := hW.cod.being x 2 (by omega) (by omega)
              go_simp
              try with_reducible rfl
            simp only [Act.put, List.setIfInBounds_toArray, List.set]
            refine take_at (i := 21) (d := some 38) (fuel := 17) (v := ?_) rfl rfl (by kernel_rfl) (by kernel_rfl) (by kernel_rfl) (fun _ _ _ h => h) (Or.inl ⟨by rfl, ?_⟩) G2d ?_
            rotate_left
            · intro W hW
              have c1 : W.cell? ⟨w.heap.size, 129 + x * 6 + 3, none⟩ = some (.int .i64 (L.room x)) := hW.cod.being x 3 (by omega) (by omega)
              have c2 : W.cell? ⟨w.heap.size, 129 + y * 6 + 3, none⟩ = some (.int .i64 (L.room y)) := hW.cod.being y 3 (by omega) (by omega)
              have c3 : W.cell? ⟨w.heap.size, 129 + x * 6 + 2, none⟩ = some (.bool (L.keen x)) := hW.cod.being x 2 (by omega) (by omega)
              go_simp
              try with_reducible rfl
            simp only [Act.put, List.setIfInBounds_toArray, List.set]
            refine wpAnyH_all (fuel := 16) (rs := [22]) (by kernel_rfl) (by simp) ?_
            intro i hi
            obtain rfl : i = 22 := by simpa using hi
            clear hi
            refine call_at (d := some 39) rfl rfl (by rfl) 46 #[.agg L.cells, .int .i64 (L.room y)] (by kernel_rfl) ?_
            refine (isbright_any L (L.room y) _).mono ?_
            rintro e x1 ⟨rfl, hb⟩
            have S1 := G2d.call hb
            clear hb
            rw [hbr]
            refine ⟨_, rfl, S1, ?_⟩
            simp only [Act.put, List.setIfInBounds_toArray, List.set]
            refine take_at (i := 23) (d := some 40) (fuel := 15) (v := ?_) rfl rfl (by kernel_rfl) (by kernel_rfl) (by kernel_rfl) (fun _ _ _ h => h) (Or.inl ⟨by rfl, ?_⟩) S1 ?_
            rotate_left
            · intro W hW
              have c1 : W.cell? ⟨w.heap.size, 129 + x * 6 + 3, none⟩ = some (.int .i64 (L.room x)) := hW.cod.being x 3 (by omega) (by omega)
              have c2 : W.cell? ⟨w.heap.size, 129 + y * 6 + 3, none⟩ = some (.int .i64 (L.room y)) := hW.cod.being y 3 (by omega) (by omega)
              have c3 : W.cell? ⟨w.heap.size, 129 + x * 6 + 2, none⟩ = some (.bool (L.keen x)) := hW.cod.being x 2 (by omega) (by omega)
              go_simp
              try with_reducible rfl
            simp only [Act.put, List.setIfInBounds_toArray, List.set]
            refine take_at (i := 24) (d := some 41) (fuel := 14) (v := ?_) rfl rfl (by kernel_rfl) (by kernel_rfl) (by kernel_rfl) (fun _ _ _ h => h) (Or.inl ⟨by rfl, ?_⟩) S1 ?_
            rotate_left
            · intro W hW
              have c1 : W.cell? ⟨w.heap.size, 129 + x * 6 + 3, none⟩ = some (.int .i64 (L.room x)) := hW.cod.being x 3 (by omega) (by omega)
              have c2 : W.cell? ⟨w.heap.size, 129 + y * 6 + 3, none⟩ = some (.int .i64 (L.room y)) := hW.cod.being y 3 (by omega) (by omega)
              have c3 : W.cell? ⟨w.heap.size, 129 + x * 6 + 2, none⟩ = some (.bool (L.keen x)) := hW.cod.being x 2 (by omega) (by omega)
              go_simp
              try with_reducible rfl
            simp only [Act.put, List.setIfInBounds_toArray, List.set]
            refine take_at (i := 25) (d := some 42) (fuel := 13) (v := undef) rfl rfl (by kernel_rfl) (by kernel_rfl) (by kernel_rfl) (fun _ _ _ h => h) (Or.inr ⟨by rfl, rfl⟩) S1 ?_
            simp only [Act.put, List.setIfInBounds_toArray, List.set]
            refine take_at (i := 26) (d := some 43) (fuel := 12) (v := undef) rfl rfl (by kernel_rfl) (by kernel_rfl) (by kernel_rfl) (fun _ _ _ h => h) (Or.inr ⟨by rfl, rfl⟩) S1 ?_
            simp only [Act.put, List.setIfInBounds_toArray, List.set]
            refine take_at (i := 27) (d := some 44) (fuel := 11) (v := undef) rfl rfl (by kernel_rfl) (by kernel_rfl) (by kernel_rfl) (fun _ _ _ h => h) (Or.inr ⟨by rfl, rfl⟩) S1 ?_
            simp only [Act.put, List.setIfInBounds_toArray, List.set]
            refine take_at (i := 28) (d := some 45) (fuel := 10) (v := undef) rfl rfl (by kernel_rfl) (by kernel_rfl) (by kernel_rfl) (fun _ _ _ h => h) (Or.inr ⟨by rfl, rfl⟩) S1 ?_
            simp only [Act.put, List.setIfInBounds_toArray, List.set]
            refine take_at (i := 29) (d := some 46) (fuel := 9) (v := undef) rfl rfl (by kernel_rfl) (by kernel_rfl) (by kernel_rfl) (fun _ _ _ h => h) (Or.inr ⟨by rfl, rfl⟩) S1 ?_
            simp only [Act.put, List.setIfInBounds_toArray, List.set]
            refine take_at (i := 30) (d := some 47) (fuel := 8) (v := undef) rfl rfl (by kernel_rfl) (by kernel_rfl) (by kernel_rfl) (fun _ _ _ h => h) (Or.inr ⟨by rfl, rfl⟩) S1 ?_
            simp only [Act.put, List.setIfInBounds_toArray, List.set]
            refine take_at (i := 31) (d := some 48) (fuel := 7) (v := undef) rfl rfl (by kernel_rfl) (by kernel_rfl) (by kernel_rfl) (fun _ _ _ h => h) (Or.inr ⟨by rfl, rfl⟩) S1 ?_
            simp only [Act.put, List.setIfInBounds_toArray, List.set]
            refine take_at (i := 32) (d := some 49) (fuel := 6) (v := undef) rfl rfl (by kernel_rfl) (by kernel_rfl) (by kernel_rfl) (fun _ _ _ h => h) (Or.inr ⟨by rfl, rfl⟩) S1 ?_
            simp only [Act.put, List.setIfInBounds_toArray, List.set]
            refine take_at (i := 33) (d := some 50) (fuel := 5) (v := undef) rfl rfl (by kernel_rfl) (by kernel_rfl) (by kernel_rfl) (fun _ _ _ h => h) (Or.inr ⟨by rfl, rfl⟩) S1 ?_
            simp only [Act.put, List.setIfInBounds_toArray, List.set]
            refine take_at (i := 34) (d := some 51) (fuel := 4) (v := undef) rfl rfl (by kernel_rfl) (by kernel_rfl) (by kernel_rfl) (fun _ _ _ h => h) (Or.inr ⟨by rfl, rfl⟩) S1 ?_
            simp only [Act.put, List.setIfInBounds_toArray, List.set]
            refine take_at (i := 35) (d := some 52) (fuel := 3) (v := undef) rfl rfl (by kernel_rfl) (by kernel_rfl) (by kernel_rfl) (fun _ _ _ h => h) (Or.inr ⟨by rfl, rfl⟩) S1 ?_
            simp only [Act.put, List.setIfInBounds_toArray, List.set]
            refine take_at (i := 36) (d := some 53) (fuel := 2) (v := ?_) rfl rfl (by kernel_rfl) (by kernel_rfl) (by kernel_rfl) (fun _ _ _ h => h) (Or.inl ⟨by rfl, ?_⟩) S1 ?_
            rotate_left
            · intro W hW
              have c1 : W.cell? ⟨w.heap.size, 129 + x * 6 + 3, none⟩ = some (.int .i64 (L.room x)) := hW.cod.being x 3 (by omega) (by omega)
              have c2 : W.cell? ⟨w.heap.size, 129 + y * 6 + 3, none⟩ = some (.int .i64 (L.room y)) := hW.cod.being y 3 (by omega) (by omega)
              have c3 : W.cell? ⟨w.heap.size, 129 + x * 6 + 2, none⟩ = some (.bool (L.keen x)) := hW.cod.being x 2 (by omega) (by omega)
              go_simp
              try with_reducible rfl
            simp only [Act.put, List.setIfInBounds_toArray, List.set]
            refine take_at (i := 37) (d := some 54) (fuel := 1) (v := ?_) rfl rfl (by kernel_rfl) (by kernel_rfl) (by kernel_rfl) (fun _ _ _ h => h) (Or.inl ⟨by rfl, ?_⟩) S1 ?_
            rotate_left
            · intro W hW
              have c1 : W.cell? ⟨w.heap.size, 129 + x * 6 + 3, none⟩ = some (.int .i64 (L.room x)) := hW.cod.being x 3 (by omega) (by omega)
              have c2 : W.cell? ⟨w.heap.size, 129 + y * 6 + 3, none⟩ = some (.int .i64 (L.room y)) := hW.cod.being y 3 (by omega) (by omega)
              have c3 : W.cell? ⟨w.heap.size, 129 + x * 6 + 2, none⟩ = some (.bool (L.keen x)) := hW.cod.being x 2 (by omega) (by omega)
              go_simp
              try with_reducible rfl
            simp only [Act.put, List.setIfInBounds_toArray, List.set]
            refine take_at (i := 38) (d := some 6) (fuel := 0) (v := ?_) rfl rfl (by kernel_rfl) (by kernel_rfl) (by kernel_rfl) (fun _ _ _ h => h) (Or.inl ⟨by rfl, ?_⟩) S1 ?_
            rotate_left
            · intro W hW
              have c1 : W.cell? ⟨w.heap.size, 129 + x * 6 + 3, none⟩ = some (.int .i64 (L.room x)) := hW.cod.being x 3 (by omega) (by omega)
              have c2 : W.cell? ⟨w.heap.size, 129 + y * 6 + 3, none⟩ = some (.int .i64 (L.room y)) := hW.cod.being y 3 (by omega) (by omega)
              have c3 : W.cell? ⟨w.heap.size, 129 + x * 6 + 2, none⟩ = some (.bool (L.keen x)) := hW.cod.being x 2 (by omega) (by omega)
              go_simp
              try with_reducible rfl
            simp only [Act.put, List.setIfInBounds_toArray, List.set]
            refine wpAnyH_done (by kernel_rfl) ?_ _
            go_wp2
            go_ret
            exact ⟨ret_bool HN.out.symm, S1.low⟩
          | true =>
            cases hhi : hiddenL L (y : Int) with
            | false =>
              have HN := hide (show seesL L (x : Int) (y : Int) = true by rw [HV2.out, hbr, hhi]; rfl)
              go_enter Tryd.func51, Tryd.ntmps51
              go_wp2_with (refine wl_land (.tmp 3) rfl rfl _ L rfl (cod_new w L) ?_)
              refine (about_any L (x : Int) _).mono ?_
              rintro e w1 ⟨rfl, hb⟩
              have G1 := hide ((gd_start L w).call hb)
              rw [HA.out]
              clear hb
              go_wp2_with (refine wl_land (.tmp 3) rfl rfl _ L rfl G1.out.cod ?_)
              refine (about_any L (y : Int) _).mono ?_
              rintro e w2 ⟨rfl, hb⟩
              have G2 := hide (G1.out.call hb)
              rw [HB.out]
              clear hb
              have G2d : GdRel L w w2.drew := G2.out.drew
              go_wp2_with fail
              refine wp_region_held (S := fun W => GdRel L w W) (by kernel_rfl) ?_
              refine take_at (i := 0) (d := some 17) (fuel := 38) (v := ?_) rfl rfl (by kernel_rfl) (by kernel_rfl) (by kernel_rfl) (fun _ _ _ h => h) (Or.inl ⟨by rfl, ?_⟩) G2d ?_
              rotate_left
              · intro W hW
                have c1 : W.cell? ⟨w.heap.size, 129 + x * 6 + 3, none⟩ = some (.int .i64 (L.room x)) := hW.cod.being x 3 (by omega) (by omega)
                have c2 : W.cell? ⟨w.heap.size, 129 + y * 6 + 3, none⟩ = some (.int .i64 (L.room y)) := hW.cod.being y 3 (by omega) (by omega)
                have c3 : W.cell? ⟨w.heap.size, 129 + x * 6 + 2, none⟩ = some (.bool (L.keen x)) := hW.cod.being x 2 (by omega) (by omega)
                go_simp
                try with_reducible rfl
              simp only [Act.put, List.setIfInBounds_toArray, List.set]
              refine take_at (i := 1) (d := some 18) (fuel := 37) (v := ?_) rfl rfl (by kernel_rfl) (by kernel_rfl) (by kernel_rfl) (fun _ _ _ h => h) (Or.inl ⟨by rfl, ?_⟩) G2d ?_
              rotate_left
              · intro W hW
                have c1 : W.cell? ⟨w.heap.size, 129 + x * 6 + 3, none⟩ = some (.int .i64 (L.room x)) := hW.cod.being x 3 (by omega) (by omega)
                have c2 : W.cell? ⟨w.heap.size, 129 + y * 6 + 3, none⟩ = some (.int .i64 (L.room y)) := hW.cod.being y 3 (by omega) (by omega)
                have c3 : W.cell? ⟨w.heap.size, 129 + x * 6 + 2, none⟩ = some (.bool (L.keen x)) := hW.cod.being x 2 (by omega) (by omega)
                go_simp
                try with_reducible rfl
              simp only [Act.put, List.setIfInBounds_toArray, List.set]
              refine take_at (i := 2) (d := some 19) (fuel := 36) (v := ?_) rfl rfl (by kernel_rfl) (by kernel_rfl) (by kernel_rfl) (fun _ _ _ h => h) (Or.inl ⟨by rfl, ?_⟩) G2d ?_
              rotate_left
              · intro W hW
                have c1 : W.cell? ⟨w.heap.size, 129 + x * 6 + 3, none⟩ = some (.int .i64 (L.room x)) := hW.cod.being x 3 (by omega) (by omega)
                have c2 : W.cell? ⟨w.heap.size, 129 + y * 6 + 3, none⟩ = some (.int .i64 (L.room y)) := hW.cod.being y 3 (by omega) (by omega)
                have c3 : W.cell? ⟨w.heap.size, 129 + x * 6 + 2, none⟩ = some (.bool (L.keen x)) := hW.cod.being x 2 (by omega) (by omega)
                go_simp
                try with_reducible rfl
              simp only [Act.put, List.setIfInBounds_toArray, List.set]
              refine take_at (i := 3) (d := some 20) (fuel := 35) (v := ?_) rfl rfl (by kernel_rfl) (by kernel_rfl) (by kernel_rfl) (fun _ _ _ h => h) (Or.inl ⟨by rfl, ?_⟩) G2d ?_
              rotate_left
              · intro W hW
                have c1 : W.cell? ⟨w.heap.size, 129 + x * 6 + 3, none⟩ = some (.int .i64 (L.room x)) := hW.cod.being x 3 (by omega) (by omega)
                have c2 : W.cell? ⟨w.heap.size, 129 + y * 6 + 3, none⟩ = some (.int .i64 (L.room y)) := hW.cod.being y 3 (by omega) (by omega)
                have c3 : W.cell? ⟨w.heap.size, 129 + x * 6 + 2, none⟩ = some (.bool (L.keen x)) := hW.cod.being x 2 (by omega) (by omega)
                go_simp
                try with_reducible rfl
              simp only [Act.put, List.setIfInBounds_toArray, List.set]
              refine take_at (i := 4) (d := some 21) (fuel := 34) (v := ?_) rfl rfl (by kernel_rfl) (by kernel_rfl) (by kernel_rfl) (fun _ _ _ h => h) (Or.inl ⟨by rfl, ?_⟩) G2d ?_
              rotate_left
              · intro W hW
                have c1 : W.cell? ⟨w.heap.size, 129 + x * 6 + 3, none⟩ = some (.int .i64 (L.room x)) := hW.cod.being x 3 (by omega) (by omega)
                have c2 : W.cell? ⟨w.heap.size, 129 + y * 6 + 3, none⟩ = some (.int .i64 (L.room y)) := hW.cod.being y 3 (by omega) (by omega)
                have c3 : W.cell? ⟨w.heap.size, 129 + x * 6 + 2, none⟩ = some (.bool (L.keen x)) := hW.cod.being x 2 (by omega) (by omega)
                go_simp
                try with_reducible rfl
              simp only [Act.put, List.setIfInBounds_toArray, List.set]
              refine take_at (i := 5) (d := some 22) (fuel := 33) (v := ?_) rfl rfl (by kernel_rfl) (by kernel_rfl) (by kernel_rfl) (fun _ _ _ h => h) (Or.inl ⟨by rfl, ?_⟩) G2d ?_
              rotate_left
              · intro W hW
                have c1 : W.cell? ⟨w.heap.size, 129 + x * 6 + 3, none⟩ = some (.int .i64 (L.room x)) := hW.cod.being x 3 (by omega) (by omega)
                have c2 : W.cell? ⟨w.heap.size, 129 + y * 6 + 3, none⟩ = some (.int .i64 (L.room y)) := hW.cod.being y 3 (by omega) (by omega)
                have c3 : W.cell? ⟨w.heap.size, 129 + x * 6 + 2, none⟩ = some (.bool (L.keen x)) := hW.cod.being x 2 (by omega) (by omega)
                go_simp
                try with_reducible rfl
              simp only [Act.put, List.setIfInBounds_toArray, List.set]
              refine take_at (i := 6) (d := some 23) (fuel := 32) (v := ?_) rfl rfl (by kernel_rfl) (by kernel_rfl) (by kernel_rfl) (fun _ _ _ h => h) (Or.inl ⟨by rfl, ?_⟩) G2d ?_
              rotate_left
              · intro W hW
                have c1 : W.cell? ⟨w.heap.size, 129 + x * 6 + 3, none⟩ = some (.int .i64 (L.room x)) := hW.cod.being x 3 (by omega) (by omega)
                have c2 : W.cell? ⟨w.heap.size, 129 + y * 6 + 3, none⟩ = some (.int .i64 (L.room y)) := hW.cod.being y 3 (by omega) (by omega)
                have c3 : W.cell? ⟨w.heap.size, 129 + x * 6 + 2, none⟩ = some (.bool (L.keen x)) := hW.cod.being x 2 (by omega) (by omega)
                go_simp
                try with_reducible rfl
              simp only [Act.put, List.setIfInBounds_toArray, List.set]
              refine take_at (i := 7) (d := some 24) (fuel := 31) (v := ?_) rfl rfl (by kernel_rfl) (by kernel_rfl) (by kernel_rfl) (fun _ _ _ h => h) (Or.inl ⟨by rfl, ?_⟩) G2d ?_
              rotate_left
              · intro W hW
                have c1 : W.cell? ⟨w.heap.size, 129 + x * 6 + 3, none⟩ = some (.int .i64 (L.room x)) := hW.cod.being x 3 (by omega) (by omega)
                have c2 : W.cell? ⟨w.heap.size, 129 + y * 6 + 3, none⟩ = some (.int .i64 (L.room y)) := hW.cod.being y 3 (by omega) (by omega)
                have c3 : W.cell? ⟨w.heap.size, 129 + x * 6 + 2, none⟩ = some (.bool (L.keen x)) := hW.cod.being x 2 (by omega) (by omega)
                go_simp
                try with_reducible rfl
              simp only [Act.put, List.setIfInBounds_toArray, List.set]
              refine take_at (i := 8) (d := some 25) (fuel := 30) (v := ?_) rfl rfl (by kernel_rfl) (by kernel_rfl) (by kernel_rfl) (fun _ _ _ h => h) (Or.inl ⟨by rfl, ?_⟩) G2d ?_
              rotate_left
              · intro W hW
                have c1 : W.cell? ⟨w.heap.size, 129 + x * 6 + 3, none⟩ = some (.int .i64 (L.room x)) := hW.cod.being x 3 (by omega) (by omega)
                have c2 : W.cell? ⟨w.heap.size, 129 + y * 6 + 3, none⟩ = some (.int .i64 (L.room y)) := hW.cod.being y 3 (by omega) (by omega)
                have c3 : W.cell? ⟨w.heap.size, 129 + x * 6 + 2, none⟩ = some (.bool (L.keen x)) := hW.cod.being x 2 (by omega) (by omega)
                go_simp
                try with_reducible rfl
              simp only [Act.put, List.setIfInBounds_toArray, List.set]
              refine take_at (i := 9) (d := some 26) (fuel := 29) (v := ?_) rfl rfl (by kernel_rfl) (by kernel_rfl) (by kernel_rfl) (fun _ _ _ h => h) (Or.inl ⟨by rfl, ?_⟩) G2d ?_
              rotate_left
              · intro W hW
                have c1 : W.cell? ⟨w.heap.size, 129 + x * 6 + 3, none⟩ = some (.int .i64 (L.room x)) := hW.cod.being x 3 (by omega) (by omega)
                have c2 : W.cell? ⟨w.heap.size, 129 + y * 6 + 3, none⟩ = some (.int .i64 (L.room y)) := hW.cod.being y 3 (by omega) (by omega)
                have c3 : W.cell? ⟨w.heap.size, 129 + x * 6 + 2, none⟩ = some (.bool (L.keen x)) := hW.cod.being x 2 (by omega) (by omega)
                go_simp
                try with_reducible rfl
              simp only [Act.put, List.setIfInBounds_toArray, List.set]
              refine take_at (i := 10) (d := some 27) (fuel := 28) (v := ?_) rfl rfl (by kernel_rfl) (by kernel_rfl) (by kernel_rfl) (fun _ _ _ h => h) (Or.inl ⟨by rfl, ?_⟩) G2d ?_
              rotate_left
              · intro W hW
                have c1 : W.cell? ⟨w.heap.size, 129 + x * 6 + 3, none⟩ = some (.int .i64 (L.room x)) := hW.cod.being x 3 (by omega) (by omega)
                have c2 : W.cell? ⟨w.heap.size, 129 + y * 6 + 3, none⟩ = some (.int .i64 (L.room y)) := hW.cod.being y 3 (by omega) (by omega)
                have c3 : W.cell? ⟨w.heap.size, 129 + x * 6 + 2, none⟩ = some (.bool (L.keen x)) := hW.cod.being x 2 (by omega) (by omega)
                go_simp
                try with_reducible rfl
              simp only [Act.put, List.setIfInBounds_toArray, List.set]
              refine take_at (i := 11) (d := some 28) (fuel := 27) (v := ?_) rfl rfl (by kernel_rfl) (by kernel_rfl) (by kernel_rfl) (fun _ _ _ h => h) (Or.inl ⟨by rfl, ?_⟩) G2d ?_
              rotate_left
              · intro W hW
                have c1 : W.cell? ⟨w.heap.size, 129 + x * 6 + 3, none⟩ = some (.int .i64 (L.room x)) := hW.cod.being x 3 (by omega) (by omega)
                have c2 : W.cell? ⟨w.heap.size, 129 + y * 6 + 3, none⟩ = some (.int .i64 (L.room y)) := hW.cod.being y 3 (by omega) (by omega)
                have c3 : W.cell? ⟨w.heap.size, 129 + x * 6 + 2, none⟩ = some (.bool (L.keen x)) := hW.cod.being x 2 (by omega) (by omega)
                go_simp
                try with_reducible rfl
              simp only [Act.put, List.setIfInBounds_toArray, List.set]
              refine take_at (i := 12) (d := some 29) (fuel := 26) (v := ?_) rfl rfl (by kernel_rfl) (by kernel_rfl) (by kernel_rfl) (fun _ _ _ h => h) (Or.inl ⟨by rfl, ?_⟩) G2d ?_
              rotate_left
              · intro W hW
                have c1 : W.cell? ⟨w.heap.size, 129 + x * 6 + 3, none⟩ = some (.int .i64 (L.room x)) := hW.cod.being x 3 (by omega) (by omega)
                have c2 : W.cell? ⟨w.heap.size, 129 + y * 6 + 3, none⟩ = some (.int .i64 (L.room y)) := hW.cod.being y 3 (by omega) (by omega)
                have c3 : W.cell? ⟨w.heap.size, 129 + x * 6 + 2, none⟩ = some (.bool (L.keen x)) := hW.cod.being x 2 (by omega) (by omega)
                go_simp
                try with_reducible rfl
              simp only [Act.put, List.setIfInBounds_toArray, List.set]
              refine take_at (i := 13) (d := some 30) (fuel := 25) (v := ?_) rfl rfl (by kernel_rfl) (by kernel_rfl) (by kernel_rfl) (fun _ _ _ h => h) (Or.inl ⟨by rfl, ?_⟩) G2d ?_
              rotate_left
              · intro W hW
                have c1 : W.cell? ⟨w.heap.size, 129 + x * 6 + 3, none⟩ = some (.int .i64 (L.room x)) := hW.cod.being x 3 (by omega) (by omega)
                have c2 : W.cell? ⟨w.heap.size, 129 + y * 6 + 3, none⟩ = some (.int .i64 (L.room y)) := hW.cod.being y 3 (by omega) (by omega)
                have c3 : W.cell? ⟨w.heap.size, 129 + x * 6 + 2, none⟩ = some (.bool (L.keen x)) := hW.cod.being x 2 (by omega) (by omega)
                go_simp
                try with_reducible rfl
              simp only [Act.put, List.setIfInBounds_toArray, List.set]
              refine take_at (i := 14) (d := some 31) (fuel := 24) (v := ?_) rfl rfl (by kernel_rfl) (by kernel_rfl) (by kernel_rfl) (fun _ _ _ h => h) (Or.inl ⟨by rfl, ?_⟩) G2d ?_
              rotate_left
              · intro W hW
                have c1 : W.cell? ⟨w.heap.size, 129 + x * 6 + 3, none⟩ = some (.int .i64 (L.room x)) := hW.cod.being x 3 (by omega) (by omega)
                have c2 : W.cell? ⟨w.heap.size, 129 + y * 6 + 3, none⟩ = some (.int .i64 (L.room y)) := hW.cod.being y 3 (by omega) (by omega)
                have c3 : W.cell? ⟨w.heap.size, 129 + x * 6 + 2, none⟩ = some (.bool (L.keen x)) := hW.cod.being x 2 (by omega) (by omega)
                go_simp
                try with_reducible rfl
              simp only [Act.put, List.setIfInBounds_toArray, List.set]
              refine take_at (i := 15) (d := some 32) (fuel := 23) (v := ?_) rfl rfl (by kernel_rfl) (by kernel_rfl) (by kernel_rfl) (fun _ _ _ h => h) (Or.inl ⟨by rfl, ?_⟩) G2d ?_
              rotate_left
              · intro W hW
                have c1 : W.cell? ⟨w.heap.size, 129 + x * 6 + 3, none⟩ = some (.int .i64 (L.room x)) := hW.cod.being x 3 (by omega) (by omega)
                have c2 : W.cell? ⟨w.heap.size, 129 + y * 6 + 3, none⟩ = some (.int .i64 (L.room y)) := hW.cod.being y 3 (by omega) (by omega)
                have c3 : W.cell? ⟨w.heap.size, 129 + x * 6 + 2, none⟩ = some (.bool (L.keen x)) := hW.cod.being x 2 (by omega) (by omega)
                go_simp
                try with_reducible rfl
              simp only [Act.put, List.setIfInBounds_toArray, List.set]
              refine take_at (i := 16) (d := some 33) (fuel := 22) (v := .agg L.cells) rfl rfl (by kernel_rfl) (by kernel_rfl) (by kernel_rfl) (fun _ _ _ h => h) (Or.inl ⟨by rfl, fun W hW => exec_land (.tmp 3) rfl w.heap.size rfl hW.cod⟩) G2d ?_
              simp only [Act.put, List.setIfInBounds_toArray, List.set]
              refine take_at (i := 17) (d := some 34) (fuel := 21) (v := ?_) rfl rfl (by kernel_rfl) (by kernel_rfl) (by kernel_rfl) (fun _ _ _ h => h) (Or.inl ⟨by rfl, ?_⟩) G2d ?_
              rotate_left
              · intro W hW
                have c1 : W.cell? ⟨w.heap.size, 129 + x * 6 + 3, none⟩ = some (.int .i64 (L.room x)) := hW.cod.being x 3 (by omega) (by omega)
                have c2 : W.cell? ⟨w.heap.size, 129 + y * 6 + 3, none⟩ = some (.int .i64 (L.room y)) := hW.cod.being y 3 (by omega) (by omega)
                have c3 : W.cell? ⟨w.heap.size, 129 + x * 6 + 2, none⟩ = some (.bool (L.keen x)) := hW.cod.being x 2 (by omega) (by omega)
                go_simp
                try with_reducible rfl
              simp only [Act.put, List.setIfInBounds_toArray, List.set]
              refine take_at (i := 18) (d := some 35) (fuel := 20) (v := ?_) rfl rfl (by kernel_rfl) (by kernel_rfl) (by kernel_rfl) (fun _ _ _ h => h) (Or.inl ⟨by rfl, ?_⟩) G2d ?_
              rotate_left
              · intro W hW
                have c1 : W.cell? ⟨w.heap.size, 129 + x * 6 + 3, none⟩ = some (.int .i64 (L.room x)) := hW.cod.being x 3 (by omega) (by omega)
                have c2 : W.cell? ⟨w.heap.size, 129 + y * 6 + 3, none⟩ = some (.int .i64 (L.room y)) := hW.cod.being y 3 (by omega) (by omega)
                have c3 : W.cell? ⟨w.heap.size, 129 + x * 6 + 2, none⟩ = some (.bool (L.keen x)) := hW.cod.being x 2 (by omega) (by omega)
                go_simp
                try with_reducible rfl
              simp only [Act.put, List.setIfInBounds_toArray, List.set]
              refine take_at (i := 19) (d := some 36) (fuel := 19) (v := ?_) rfl rfl (by kernel_rfl) (by kernel_rfl) (by kernel_rfl) (fun _ _ _ h => h) (Or.inl ⟨by rfl, ?_⟩) G2d ?_
              rotate_left
              · intro W hW
                have c1 : W.cell? ⟨w.heap.size, 129 + x * 6 + 3, none⟩ = some (.int .i64 (L.room x)) := hW.cod.being x 3 (by omega) (by omega)
                have c2 : W.cell? ⟨w.heap.size, 129 + y * 6 + 3, none⟩ = some (.int .i64 (L.room y)) := hW.cod.being y 3 (by omega) (by omega)
                have c3 : W.cell? ⟨w.heap.size, 129 + x * 6 + 2, none⟩ = some (.bool (L.keen x)) := hW.cod.being x 2 (by omega) (by omega)
                go_simp
                try with_reducible rfl
              simp only [Act.put, List.setIfInBounds_toArray, List.set]
              refine take_at (i := 20) (d := some 37) (fuel := 18) (v := ?_) rfl rfl (by kernel_rfl) (by kernel_rfl) (by kernel_rfl) (fun _ _ _ h => h) (Or.inl ⟨by rfl, ?_⟩) G2d ?_
              rotate_left
              · intro W hW
                have c1 : W.cell? ⟨w.heap.size, 129 + x * 6 + 3, none⟩ = some (.int .i64 (L.room x)) := hW.cod.being x 3 (by omega) (by omega)
                have c2 : W.cell? ⟨w.heap.size, 129 + y * 6 + 3, none⟩ = some (.int .i64 (L.room y)) := hW.cod.being y 3 (by omega) (by omega)
                have c3 : W.cell? ⟨w.heap.size, 129 + x * 6 + 2, none⟩ = some (.bool (L.keen x)) := hW.cod.being x 2 (by omega) (by omega)
                go_simp
                try with_reducible rfl
              simp only [Act.put, List.setIfInBounds_toArray, List.set]
              refine take_at (i := 21) (d := some 38) (fuel := 17) (v := ?_) rfl rfl (by kernel_rfl) (by kernel_rfl) (by kernel_rfl) (fun _ _ _ h => h) (Or.inl ⟨by rfl, ?_⟩) G2d ?_
              rotate_left
              · intro W hW
                have c1 : W.cell? ⟨w.heap.size, 129 + x * 6 + 3, none⟩ = some (.int .i64 (L.room x)) := hW.cod.being x 3 (by omega) (by omega)
                have c2 : W.cell? ⟨w.heap.size, 129 + y * 6 + 3, none⟩ = some (.int .i64 (L.room y)) := hW.cod.being y 3 (by omega) (by omega)
                have c3 : W.cell? ⟨w.heap.size, 129 + x * 6 + 2, none⟩ = some (.bool (L.keen x)) := hW.cod.being x 2 (by omega) (by omega)
                go_simp
                try with_reducible rfl
              simp only [Act.put, List.setIfInBounds_toArray, List.set]
              refine wpAnyH_all (fuel := 16) (rs := [22]) (by kernel_rfl) (by simp) ?_
              intro i hi
              obtain rfl : i = 22 := by simpa using hi
              clear hi
              refine call_at (d := some 39) rfl rfl (by rfl) 46 #[.agg L.cells, .int .i64 (L.room y)] (by kernel_rfl) ?_
              refine (isbright_any L (L.room y) _).mono ?_
              rintro e x1 ⟨rfl, hb⟩
              have S1 := G2d.call hb
              clear hb
              rw [hbr]
              refine ⟨_, rfl, S1, ?_⟩
              simp only [Act.put, List.setIfInBounds_toArray, List.set]
              refine take_at (i := 23) (d := some 40) (fuel := 15) (v := ?_) rfl rfl (by kernel_rfl) (by kernel_rfl) (by kernel_rfl) (fun _ _ _ h => h) (Or.inl ⟨by rfl, ?_⟩) S1 ?_
              rotate_left
              · intro W hW
                have c1 : W.cell? ⟨w.heap.size, 129 + x * 6 + 3, none⟩ = some (.int .i64 (L.room x)) := hW.cod.being x 3 (by omega) (by omega)
                have c2 : W.cell? ⟨w.heap.size, 129 + y * 6 + 3, none⟩ = some (.int .i64 (L.room y)) := hW.cod.being y 3 (by omega) (by omega)
                have c3 : W.cell? ⟨w.heap.size, 129 + x * 6 + 2, none⟩ = some (.bool (L.keen x)) := hW.cod.being x 2 (by omega) (by omega)
                go_simp
                try with_reducible rfl
              simp only [Act.put, List.setIfInBounds_toArray, List.set]
              refine take_at (i := 24) (d := some 41) (fuel := 14) (v := ?_) rfl rfl (by kernel_rfl) (by kernel_rfl) (by kernel_rfl) (fun _ _ _ h => h) (Or.inl ⟨by rfl, ?_⟩) S1 ?_
              rotate_left
              · intro W hW
                have c1 : W.cell? ⟨w.heap.size, 129 + x * 6 + 3, none⟩ = some (.int .i64 (L.room x)) := hW.cod.being x 3 (by omega) (by omega)
                have c2 : W.cell? ⟨w.heap.size, 129 + y * 6 + 3, none⟩ = some (.int .i64 (L.room y)) := hW.cod.being y 3 (by omega) (by omega)
                have c3 : W.cell? ⟨w.heap.size, 129 + x * 6 + 2, none⟩ = some (.bool (L.keen x)) := hW.cod.being x 2 (by omega) (by omega)
                go_simp
                try with_reducible rfl
              simp only [Act.put, List.setIfInBounds_toArray, List.set]
              refine take_at (i := 25) (d := some 42) (fuel := 13) (v := .agg L.cells) rfl rfl (by kernel_rfl) (by kernel_rfl) (by kernel_rfl) (fun _ _ _ h => h) (Or.inl ⟨by rfl, fun W hW => exec_land (.tmp 3) rfl w.heap.size rfl hW.cod⟩) S1 ?_
              simp only [Act.put, List.setIfInBounds_toArray, List.set]
              refine take_at (i := 26) (d := some 43) (fuel := 12) (v := ?_) rfl rfl (by kernel_rfl) (by kernel_rfl) (by kernel_rfl) (fun _ _ _ h => h) (Or.inl ⟨by rfl, ?_⟩) S1 ?_
              rotate_left
              · intro W hW
                have c1 : W.cell? ⟨w.heap.size, 129 + x * 6 + 3, none⟩ = some (.int .i64 (L.room x)) := hW.cod.being x 3 (by omega) (by omega)
                have c2 : W.cell? ⟨w.heap.size, 129 + y * 6 + 3, none⟩ = some (.int .i64 (L.room y)) := hW.cod.being y 3 (by omega) (by omega)
                have c3 : W.cell? ⟨w.heap.size, 129 + x * 6 + 2, none⟩ = some (.bool (L.keen x)) := hW.cod.being x 2 (by omega) (by omega)
                go_simp
                try with_reducible rfl
              simp only [Act.put, List.setIfInBounds_toArray, List.set]
              refine wpAnyH_all (fuel := 11) (rs := [27]) (by kernel_rfl) (by simp) ?_
              intro i hi
              obtain rfl : i = 27 := by simpa using hi
              clear hi
              refine call_at (d := some 44) rfl rfl (by rfl) 83 #[.agg L.cells, .int .i64 (y : Int)] (by kernel_rfl) ?_
              refine (ishidden_any L (y : Int) _).mono ?_
              rintro e x2 ⟨rfl, hb⟩
              have S2 := S1.call hb
              clear hb
              rw [hhi]
              refine ⟨_, rfl, S2, ?_⟩
              simp only [Act.put, List.setIfInBounds_toArray, List.set]
              refine take_at (i := 28) (d := some 45) (fuel := 10) (v := ?_) rfl rfl (by kernel_rfl) (by kernel_rfl) (by kernel_rfl) (fun _ _ _ h => h) (Or.inl ⟨by rfl, ?_⟩) S2 ?_
              rotate_left
              · intro W hW
                have c1 : W.cell? ⟨w.heap.size, 129 + x * 6 + 3, none⟩ = some (.int .i64 (L.room x)) := hW.cod.being x 3 (by omega) (by omega)
                have c2 : W.cell? ⟨w.heap.size, 129 + y * 6 + 3, none⟩ = some (.int .i64 (L.room y)) := hW.cod.being y 3 (by omega) (by omega)
                have c3 : W.cell? ⟨w.heap.size, 129 + x * 6 + 2, none⟩ = some (.bool (L.keen x)) := hW.cod.being x 2 (by omega) (by omega)
                go_simp
                try with_reducible rfl
              simp only [Act.put, List.setIfInBounds_toArray, List.set]
              refine take_at (i := 29) (d := some 46) (fuel := 9) (v := ?_) rfl rfl (by kernel_rfl) (by kernel_rfl) (by kernel_rfl) (fun _ _ _ h => h) (Or.inl ⟨by rfl, ?_⟩) S2 ?_
              rotate_left
              · intro W hW
                have c1 : W.cell? ⟨w.heap.size, 129 + x * 6 + 3, none⟩ = some (.int .i64 (L.room x)) := hW.cod.being x 3 (by omega) (by omega)
                have c2 : W.cell? ⟨w.heap.size, 129 + y * 6 + 3, none⟩ = some (.int .i64 (L.room y)) := hW.cod.being y 3 (by omega) (by omega)
                have c3 : W.cell? ⟨w.heap.size, 129 + x * 6 + 2, none⟩ = some (.bool (L.keen x)) := hW.cod.being x 2 (by omega) (by omega)
                go_simp
                try with_reducible rfl
              simp only [Act.put, List.setIfInBounds_toArray, List.set]
              refine take_at (i := 30) (d := some 47) (fuel := 8) (v := undef) rfl rfl (by kernel_rfl) (by kernel_rfl) (by kernel_rfl) (fun _ _ _ h => h) (Or.inr ⟨by rfl, rfl⟩) S2 ?_
              simp only [Act.put, List.setIfInBounds_toArray, List.set]
              refine take_at (i := 31) (d := some 48) (fuel := 7) (v := undef) rfl rfl (by kernel_rfl) (by kernel_rfl) (by kernel_rfl) (fun _ _ _ h => h) (Or.inr ⟨by rfl, rfl⟩) S2 ?_
              simp only [Act.put, List.setIfInBounds_toArray, List.set]
              refine take_at (i := 32) (d := some 49) (fuel := 6) (v := undef) rfl rfl (by kernel_rfl) (by kernel_rfl) (by kernel_rfl) (fun _ _ _ h => h) (Or.inr ⟨by rfl, rfl⟩) S2 ?_
              simp only [Act.put, List.setIfInBounds_toArray, List.set]
              refine take_at (i := 33) (d := some 50) (fuel := 5) (v := undef) rfl rfl (by kernel_rfl) (by kernel_rfl) (by kernel_rfl) (fun _ _ _ h => h) (Or.inr ⟨by rfl, rfl⟩) S2 ?_
              simp only [Act.put, List.setIfInBounds_toArray, List.set]
              refine take_at (i := 34) (d := some 51) (fuel := 4) (v := undef) rfl rfl (by kernel_rfl) (by kernel_rfl) (by kernel_rfl) (fun _ _ _ h => h) (Or.inr ⟨by rfl, rfl⟩) S2 ?_
              simp only [Act.put, List.setIfInBounds_toArray, List.set]
              refine take_at (i := 35) (d := some 52) (fuel := 3) (v := ?_) rfl rfl (by kernel_rfl) (by kernel_rfl) (by kernel_rfl) (fun _ _ _ h => h) (Or.inl ⟨by rfl, ?_⟩) S2 ?_
              rotate_left
              · intro W hW
                have c1 : W.cell? ⟨w.heap.size, 129 + x * 6 + 3, none⟩ = some (.int .i64 (L.room x)) := hW.cod.being x 3 (by omega) (by omega)
                have c2 : W.cell? ⟨w.heap.size, 129 + y * 6 + 3, none⟩ = some (.int .i64 (L.room y)) := hW.cod.being y 3 (by omega) (by omega)
                have c3 : W.cell? ⟨w.heap.size, 129 + x * 6 + 2, none⟩ = some (.bool (L.keen x)) := hW.cod.being x 2 (by omega) (by omega)
                go_simp
                try with_reducible rfl
              simp only [Act.put, List.setIfInBounds_toArray, List.set]
              refine take_at (i := 36) (d := some 53) (fuel := 2) (v := ?_) rfl rfl (by kernel_rfl) (by kernel_rfl) (by kernel_rfl) (fun _ _ _ h => h) (Or.inl ⟨by rfl, ?_⟩) S2 ?_
              rotate_left
              · intro W hW
                have c1 : W.cell? ⟨w.heap.size, 129 + x * 6 + 3, none⟩ = some (.int .i64 (L.room x)) := hW.cod.being x 3 (by omega) (by omega)
                have c2 : W.cell? ⟨w.heap.size, 129 + y * 6 + 3, none⟩ = some (.int .i64 (L.room y)) := hW.cod.being y 3 (by omega) (by omega)
                have c3 : W.cell? ⟨w.heap.size, 129 + x * 6 + 2, none⟩ = some (.bool (L.keen x)) := hW.cod.being x 2 (by omega) (by omega)
                go_simp
                try with_reducible rfl
              simp only [Act.put, List.setIfInBounds_toArray, List.set]
              refine take_at (i := 37) (d := some 54) (fuel := 1) (v := ?_) rfl rfl (by kernel_rfl) (by kernel_rfl) (by kernel_rfl) (fun _ _ _ h => h) (Or.inl ⟨by rfl, ?_⟩) S2 ?_
              rotate_left
              · intro W hW
                have c1 : W.cell? ⟨w.heap.size, 129 + x * 6 + 3, none⟩ = some (.int .i64 (L.room x)) := hW.cod.being x 3 (by omega) (by omega)
                have c2 : W.cell? ⟨w.heap.size, 129 + y * 6 + 3, none⟩ = some (.int .i64 (L.room y)) := hW.cod.being y 3 (by omega) (by omega)
                have c3 : W.cell? ⟨w.heap.size, 129 + x * 6 + 2, none⟩ = some (.bool (L.keen x)) := hW.cod.being x 2 (by omega) (by omega)
                go_simp
                try with_reducible rfl
              simp only [Act.put, List.setIfInBounds_toArray, List.set]
              refine take_at (i := 38) (d := some 6) (fuel := 0) (v := ?_) rfl rfl (by kernel_rfl) (by kernel_rfl) (by kernel_rfl) (fun _ _ _ h => h) (Or.inl ⟨by rfl, ?_⟩) S2 ?_
              rotate_left
              · intro W hW
                have c1 : W.cell? ⟨w.heap.size, 129 + x * 6 + 3, none⟩ = some (.int .i64 (L.room x)) := hW.cod.being x 3 (by omega) (by omega)
                have c2 : W.cell? ⟨w.heap.size, 129 + y * 6 + 3, none⟩ = some (.int .i64 (L.room y)) := hW.cod.being y 3 (by omega) (by omega)
                have c3 : W.cell? ⟨w.heap.size, 129 + x * 6 + 2, none⟩ = some (.bool (L.keen x)) := hW.cod.being x 2 (by omega) (by omega)
                go_simp
                try with_reducible rfl
              simp only [Act.put, List.setIfInBounds_toArray, List.set]
              refine wpAnyH_done (by kernel_rfl) ?_ _
              go_wp2
              go_ret
              exact ⟨ret_bool HN.out.symm, S2.low⟩
            | true =>
              have HN := hide (show seesL L (x : Int) (y : Int) = L.keen x by rw [HV2.out, hbr, hhi]; simp)
              go_enter Tryd.func51, Tryd.ntmps51
              go_wp2_with (refine wl_land (.tmp 3) rfl rfl _ L rfl (cod_new w L) ?_)
              refine (about_any L (x : Int) _).mono ?_
              rintro e w1 ⟨rfl, hb⟩
              have G1 := hide ((gd_start L w).call hb)
              rw [HA.out]
              clear hb
              go_wp2_with (refine wl_land (.tmp 3) rfl rfl _ L rfl G1.out.cod ?_)
              refine (about_any L (y : Int) _).mono ?_
              rintro e w2 ⟨rfl, hb⟩
              have G2 := hide (G1.out.call hb)
              rw [HB.out]
              clear hb
              have G2d : GdRel L w w2.drew := G2.out.drew
              go_wp2_with fail
              refine wp_region_held (S := fun W => GdRel L w W) (by kernel_rfl) ?_
              refine take_at (i := 0) (d := some 17) (fuel := 38) (v := ?_) rfl rfl (by kernel_rfl) (by kernel_rfl) (by kernel_rfl) (fun _ _ _ h => h) (Or.inl ⟨by rfl, ?_⟩) G2d ?_
              rotate_left
              · intro W hW
                have c1 : W.cell? ⟨w.heap.size, 129 + x * 6 + 3, none⟩ = some (.int .i64 (L.room x)) := hW.cod.being x 3 (by omega) (by omega)
                have c2 : W.cell? ⟨w.heap.size, 129 + y * 6 + 3, none⟩ = some (.int .i64 (L.room y)) := hW.cod.being y 3 (by omega) (by omega)
                have c3 : W.cell? ⟨w.heap.size, 129 + x * 6 + 2, none⟩ = some (.bool (L.keen x)) := hW.cod.being x 2 (by omega) (by omega)
                go_simp
                try with_reducible rfl
              simp only [Act.put, List.setIfInBounds_toArray, List.set]
              refine take_at (i := 1) (d := some 18) (fuel := 37) (v := ?_) rfl rfl (by kernel_rfl) (by kernel_rfl) (by kernel_rfl) (fun _ _ _ h => h) (Or.inl ⟨by rfl, ?_⟩) G2d ?_
              rotate_left
              · intro W hW
                have c1 : W.cell? ⟨w.heap.size, 129 + x * 6 + 3, none⟩ = some (.int .i64 (L.room x)) := hW.cod.being x 3 (by omega) (by omega)
                have c2 : W.cell? ⟨w.heap.size, 129 + y * 6 + 3, none⟩ = some (.int .i64 (L.room y)) := hW.cod.being y 3 (by omega) (by omega)
                have c3 : W.cell? ⟨w.heap.size, 129 + x * 6 + 2, none⟩ = some (.bool (L.keen x)) := hW.cod.being x 2 (by omega) (by omega)
                go_simp
                try with_reducible rfl
              simp only [Act.put, List.setIfInBounds_toArray, List.set]
              refine take_at (i := 2) (d := some 19) (fuel := 36) (v := ?_) rfl rfl (by kernel_rfl) (by kernel_rfl) (by kernel_rfl) (fun _ _ _ h => h) (Or.inl ⟨by rfl, ?_⟩) G2d ?_
              rotate_left
              · intro W hW
                have c1 : W.cell? ⟨w.heap.size, 129 + x * 6 + 3, none⟩ = some (.int .i64 (L.room x)) := hW.cod.being x 3 (by omega) (by omega)
                have c2 : W.cell? ⟨w.heap.size, 129 + y * 6 + 3, none⟩ = some (.int .i64 (L.room y)) := hW.cod.being y 3 (by omega) (by omega)
                have c3 : W.cell? ⟨w.heap.size, 129 + x * 6 + 2, none⟩ = some (.bool (L.keen x)) := hW.cod.being x 2 (by omega) (by omega)
                go_simp
                try with_reducible rfl
              simp only [Act.put, List.setIfInBounds_toArray, List.set]
              refine take_at (i := 3) (d := some 20) (fuel := 35) (v := ?_) rfl rfl (by kernel_rfl) (by kernel_rfl) (by kernel_rfl) (fun _ _ _ h => h) (Or.inl ⟨by rfl, ?_⟩) G2d ?_
              rotate_left
              · intro W hW
                have c1 : W.cell? ⟨w.heap.size, 129 + x * 6 + 3, none⟩ = some (.int .i64 (L.room x)) := hW.cod.being x 3 (by omega) (by omega)
                have c2 : W.cell? ⟨w.heap.size, 129 + y * 6 + 3, none⟩ = some (.int .i64 (L.room y)) := hW.cod.being y 3 (by omega) (by omega)
                have c3 : W.cell? ⟨w.heap.size, 129 + x * 6 + 2, none⟩ = some (.bool (L.keen x)) := hW.cod.being x 2 (by omega) (by omega)
                go_simp
                try with_reducible rfl
              simp only [Act.put, List.setIfInBounds_toArray, List.set]
              refine take_at (i := 4) (d := some 21) (fuel := 34) (v := ?_) rfl rfl (by kernel_rfl) (by kernel_rfl) (by kernel_rfl) (fun _ _ _ h => h) (Or.inl ⟨by rfl, ?_⟩) G2d ?_
              rotate_left
              · intro W hW
                have c1 : W.cell? ⟨w.heap.size, 129 + x * 6 + 3, none⟩ = some (.int .i64 (L.room x)) := hW.cod.being x 3 (by omega) (by omega)
                have c2 : W.cell? ⟨w.heap.size, 129 + y * 6 + 3, none⟩ = some (.int .i64 (L.room y)) := hW.cod.being y 3 (by omega) (by omega)
                have c3 : W.cell? ⟨w.heap.size, 129 + x * 6 + 2, none⟩ = some (.bool (L.keen x)) := hW.cod.being x 2 (by omega) (by omega)
                go_simp
                try with_reducible rfl
              simp only [Act.put, List.setIfInBounds_toArray, List.set]
              refine take_at (i := 5) (d := some 22) (fuel := 33) (v := ?_) rfl rfl (by kernel_rfl) (by kernel_rfl) (by kernel_rfl) (fun _ _ _ h => h) (Or.inl ⟨by rfl, ?_⟩) G2d ?_
              rotate_left
              · intro W hW
                have c1 : W.cell? ⟨w.heap.size, 129 + x * 6 + 3, none⟩ = some (.int .i64 (L.room x)) := hW.cod.being x 3 (by omega) (by omega)
                have c2 : W.cell? ⟨w.heap.size, 129 + y * 6 + 3, none⟩ = some (.int .i64 (L.room y)) := hW.cod.being y 3 (by omega) (by omega)
                have c3 : W.cell? ⟨w.heap.size, 129 + x * 6 + 2, none⟩ = some (.bool (L.keen x)) := hW.cod.being x 2 (by omega) (by omega)
                go_simp
                try with_reducible rfl
              simp only [Act.put, List.setIfInBounds_toArray, List.set]
              refine take_at (i := 6) (d := some 23) (fuel := 32) (v := ?_) rfl rfl (by kernel_rfl) (by kernel_rfl) (by kernel_rfl) (fun _ _ _ h => h) (Or.inl ⟨by rfl, ?_⟩) G2d ?_
              rotate_left
              · intro W hW
                have c1 : W.cell? ⟨w.heap.size, 129 + x * 6 + 3, none⟩ = some (.int .i64 (L.room x)) := hW.cod.being x 3 (by omega) (by omega)
                have c2 : W.cell? ⟨w.heap.size, 129 + y * 6 + 3, none⟩ = some (.int .i64 (L.room y)) := hW.cod.being y 3 (by omega) (by omega)
                have c3 : W.cell? ⟨w.heap.size, 129 + x * 6 + 2, none⟩ = some (.bool (L.keen x)) := hW.cod.being x 2 (by omega) (by omega)
                go_simp
                try with_reducible rfl
              simp only [Act.put, List.setIfInBounds_toArray, List.set]
              refine take_at (i := 7) (d := some 24) (fuel := 31) (v := ?_) rfl rfl (by kernel_rfl) (by kernel_rfl) (by kernel_rfl) (fun _ _ _ h => h) (Or.inl ⟨by rfl, ?_⟩) G2d ?_
              rotate_left
              · intro W hW
                have c1 : W.cell? ⟨w.heap.size, 129 + x * 6 + 3, none⟩ = some (.int .i64 (L.room x)) := hW.cod.being x 3 (by omega) (by omega)
                have c2 : W.cell? ⟨w.heap.size, 129 + y * 6 + 3, none⟩ = some (.int .i64 (L.room y)) := hW.cod.being y 3 (by omega) (by omega)
                have c3 : W.cell? ⟨w.heap.size, 129 + x * 6 + 2, none⟩ = some (.bool (L.keen x)) := hW.cod.being x 2 (by omega) (by omega)
                go_simp
                try with_reducible rfl
              simp only [Act.put, List.setIfInBounds_toArray, List.set]
              refine take_at (i := 8) (d := some 25) (fuel := 30) (v := ?_) rfl rfl (by kernel_rfl) (by kernel_rfl) (by kernel_rfl) (fun _ _ _ h => h) (Or.inl ⟨by rfl, ?_⟩) G2d ?_
              rotate_left
              · intro W hW
                have c1 : W.cell? ⟨w.heap.size, 129 + x * 6 + 3, none⟩ = some (.int .i64 (L.room x)) := hW.cod.being x 3 (by omega) (by omega)
                have c2 : W.cell? ⟨w.heap.size, 129 + y * 6 + 3, none⟩ = some (.int .i64 (L.room y)) := hW.cod.being y 3 (by omega) (by omega)
                have c3 : W.cell? ⟨w.heap.size, 129 + x * 6 + 2, none⟩ = some (.bool (L.keen x)) := hW.cod.being x 2 (by omega) (by omega)
                go_simp
                try with_reducible rfl
              simp only [Act.put, List.setIfInBounds_toArray, List.set]
              refine take_at (i := 9) (d := some 26) (fuel := 29) (v := ?_) rfl rfl (by kernel_rfl) (by kernel_rfl) (by kernel_rfl) (fun _ _ _ h => h) (Or.inl ⟨by rfl, ?_⟩) G2d ?_
              rotate_left
              · intro W hW
                have c1 : W.cell? ⟨w.heap.size, 129 + x * 6 + 3, none⟩ = some (.int .i64 (L.room x)) := hW.cod.being x 3 (by omega) (by omega)
                have c2 : W.cell? ⟨w.heap.size, 129 + y * 6 + 3, none⟩ = some (.int .i64 (L.room y)) := hW.cod.being y 3 (by omega) (by omega)
                have c3 : W.cell? ⟨w.heap.size, 129 + x * 6 + 2, none⟩ = some (.bool (L.keen x)) := hW.cod.being x 2 (by omega) (by omega)
                go_simp
                try with_reducible rfl
              simp only [Act.put, List.setIfInBounds_toArray, List.set]
              refine take_at (i := 10) (d := some 27) (fuel := 28) (v := ?_) rfl rfl (by kernel_rfl) (by kernel_rfl) (by kernel_rfl) (fun _ _ _ h => h) (Or.inl ⟨by rfl, ?_⟩) G2d ?_
              rotate_left
              · intro W hW
                have c1 : W.cell? ⟨w.heap.size, 129 + x * 6 + 3, none⟩ = some (.int .i64 (L.room x)) := hW.cod.being x 3 (by omega) (by omega)
                have c2 : W.cell? ⟨w.heap.size, 129 + y * 6 + 3, none⟩ = some (.int .i64 (L.room y)) := hW.cod.being y 3 (by omega) (by omega)
                have c3 : W.cell? ⟨w.heap.size, 129 + x * 6 + 2, none⟩ = some (.bool (L.keen x)) := hW.cod.being x 2 (by omega) (by omega)
                go_simp
                try with_reducible rfl
              simp only [Act.put, List.setIfInBounds_toArray, List.set]
              refine take_at (i := 11) (d := some 28) (fuel := 27) (v := ?_) rfl rfl (by kernel_rfl) (by kernel_rfl) (by kernel_rfl) (fun _ _ _ h => h) (Or.inl ⟨by rfl, ?_⟩) G2d ?_
              rotate_left
              · intro W hW
                have c1 : W.cell? ⟨w.heap.size, 129 + x * 6 + 3, none⟩ = some (.int .i64 (L.room x)) := hW.cod.being x 3 (by omega) (by omega)
                have c2 : W.cell? ⟨w.heap.size, 129 + y * 6 + 3, none⟩ = some (.int .i64 (L.room y)) := hW.cod.being y 3 (by omega) (by omega)
                have c3 : W.cell? ⟨w.heap.size, 129 + x * 6 + 2, none⟩ = some (.bool (L.keen x)) := hW.cod.being x 2 (by omega) (by omega)
                go_simp
                try with_reducible rfl
              simp only [Act.put, List.setIfInBounds_toArray, List.set]
              refine take_at (i := 12) (d := some 29) (fuel := 26) (v := ?_) rfl rfl (by kernel_rfl) (by kernel_rfl) (by kernel_rfl) (fun _ _ _ h => h) (Or.inl ⟨by rfl, ?_⟩) G2d ?_
              rotate_left
              · intro W hW
                have c1 : W.cell? ⟨w.heap.size, 129 + x * 6 + 3, none⟩ = some (.int .i64 (L.room x)) := hW.cod.being x 3 (by omega) (by omega)
                have c2 : W.cell? ⟨w.heap.size, 129 + y * 6 + 3, none⟩ = some (.int .i64 (L.room y)) := hW.cod.being y 3 (by omega) (by omega)
                have c3 : W.cell? ⟨w.heap.size, 129 + x * 6 + 2, none⟩ = some (.bool (L.keen x)) := hW.cod.being x 2 (by omega) (by omega)
                go_simp
                try with_reducible rfl
              simp only [Act.put, List.setIfInBounds_toArray, List.set]
              refine take_at (i := 13) (d := some 30) (fuel := 25) (v := ?_) rfl rfl (by kernel_rfl) (by kernel_rfl) (by kernel_rfl) (fun _ _ _ h => h) (Or.inl ⟨by rfl, ?_⟩) G2d ?_
              rotate_left
              · intro W hW
                have c1 : W.cell? ⟨w.heap.size, 129 + x * 6 + 3, none⟩ = some (.int .i64 (L.room x)) := hW.cod.being x 3 (by omega) (by omega)
                have c2 : W.cell? ⟨w.heap.size, 129 + y * 6 + 3, none⟩ = some (.int .i64 (L.room y)) := hW.cod.being y 3 (by omega) (by omega)
                have c3 : W.cell? ⟨w.heap.size, 129 + x * 6 + 2, none⟩ = some (.bool (L.keen x)) := hW.cod.being x 2 (by omega) (by omega)
                go_simp
                try with_reducible rfl
              simp only [Act.put, List.setIfInBounds_toArray, List.set]
              refine take_at (i := 14) (d := some 31) (fuel := 24) (v := ?_) rfl rfl (by kernel_rfl) (by kernel_rfl) (by kernel_rfl) (fun _ _ _ h => h) (Or.inl ⟨by rfl, ?_⟩) G2d ?_
              rotate_left
              · intro W hW
                have c1 : W.cell? ⟨w.heap.size, 129 + x * 6 + 3, none⟩ = some (.int .i64 (L.room x)) := hW.cod.being x 3 (by omega) (by omega)
                have c2 : W.cell? ⟨w.heap.size, 129 + y * 6 + 3, none⟩ = some (.int .i64 (L.room y)) := hW.cod.being y 3 (by omega) (by omega)
                have c3 : W.cell? ⟨w.heap.size, 129 + x * 6 + 2, none⟩ = some (.bool (L.keen x)) := hW.cod.being x 2 (by omega) (by omega)
                go_simp
                try with_reducible rfl
              simp only [Act.put, List.setIfInBounds_toArray, List.set]
              refine take_at (i := 15) (d := some 32) (fuel := 23) (v := ?_) rfl rfl (by kernel_rfl) (by kernel_rfl) (by kernel_rfl) (fun _ _ _ h => h) (Or.inl ⟨by rfl, ?_⟩) G2d ?_
              rotate_left
              · intro W hW
                have c1 : W.cell? ⟨w.heap.size, 129 + x * 6 + 3, none⟩ = some (.int .i64 (L.room x)) := hW.cod.being x 3 (by omega) (by omega)
                have c2 : W.cell? ⟨w.heap.size, 129 + y * 6 + 3, none⟩ = some (.int .i64 (L.room y)) := hW.cod.being y 3 (by omega) (by omega)
                have c3 : W.cell? ⟨w.heap.size, 129 + x * 6 + 2, none⟩ = some (.bool (L.keen x)) := hW.cod.being x 2 (by omega) (by omega)
                go_simp
                try with_reducible rfl
              simp only [Act.put, List.setIfInBounds_toArray, List.set]
              refine take_at (i := 16) (d := some 33) (fuel := 22) (v := .agg L.cells) rfl rfl (by kernel_rfl) (by kernel_rfl) (by kernel_rfl) (fun _ _ _ h => h) (Or.inl ⟨by rfl, fun W hW => exec_land (.tmp 3) rfl w.heap.size rfl hW.cod⟩) G2d ?_
              simp only [Act.put, List.setIfInBounds_toArray, List.set]
              refine take_at (i := 17) (d := some 34) (fuel := 21) (v := ?_) rfl rfl (by kernel_rfl) (by kernel_rfl) (by kernel_rfl) (fun _ _ _ h => h) (Or.inl ⟨by rfl, ?_⟩) G2d ?_
              rotate_left
              · intro W hW
                have c1 : W.cell? ⟨w.heap.size, 129 + x * 6 + 3, none⟩ = some (.int .i64 (L.room x)) := hW.cod.being x 3 (by omega) (by omega)
                have c2 : W.cell? ⟨w.heap.size, 129 + y * 6 + 3, none⟩ = some (.int .i64 (L.room y)) := hW.cod.being y 3 (by omega) (by omega)
                have c3 : W.cell? ⟨w.heap.size, 129 + x * 6 + 2, none⟩ = some (.bool (L.keen x)) := hW.cod.being x 2 (by omega) (by omega)
                go_simp
                try with_reducible rfl
              simp only [Act.put, List.setIfInBounds_toArray, List.set]
              refine take_at (i := 18) (d := some 35) (fuel := 20) (v := ?_) rfl rfl (by kernel_rfl) (by kernel_rfl) (by kernel_rfl) (fun _ _ _ h => h) (Or.inl ⟨by rfl, ?_⟩) G2d ?_
              rotate_left
              · intro W hW
                have c1 : W.cell? ⟨w.heap.size, 129 + x * 6 + 3, none⟩ = some (.int .i64 (L.room x)) := hW.cod.being x 3 (by omega) (by omega)
                have c2 : W.cell? ⟨w.heap.size, 129 + y * 6 + 3, none⟩ = some (.int .i64 (L.room y)) := hW.cod.being y 3 (by omega) (by omega)
                have c3 : W.cell? ⟨w.heap.size, 129 + x * 6 + 2, none⟩ = some (.bool (L.keen x)) := hW.cod.being x 2 (by omega) (by omega)
                go_simp
                try with_reducible rfl
              simp only [Act.put, List.setIfInBounds_toArray, List.set]
              refine take_at (i := 19) (d := some 36) (fuel := 19) (v := ?_) rfl rfl (by kernel_rfl) (by kernel_rfl) (by kernel_rfl) (fun _ _ _ h => h) (Or.inl ⟨by rfl, ?_⟩) G2d ?_
              rotate_left
              · intro W hW
                have c1 : W.cell? ⟨w.heap.size, 129 + x * 6 + 3, none⟩ = some (.int .i64 (L.room x)) := hW.cod.being x 3 (by omega) (by omega)
                have c2 : W.cell? ⟨w.heap.size, 129 + y * 6 + 3, none⟩ = some (.int .i64 (L.room y)) := hW.cod.being y 3 (by omega) (by omega)
                have c3 : W.cell? ⟨w.heap.size, 129 + x * 6 + 2, none⟩ = some (.bool (L.keen x)) := hW.cod.being x 2 (by omega) (by omega)
                go_simp
                try with_reducible rfl
              simp only [Act.put, List.setIfInBounds_toArray, List.set]
              refine take_at (i := 20) (d := some 37) (fuel := 18) (v := ?_) rfl rfl (by kernel_rfl) (by kernel_rfl) (by kernel_rfl) (fun _ _ _ h => h) (Or.inl ⟨by rfl, ?_⟩) G2d ?_
              rotate_left
              · intro W hW
                have c1 : W.cell? ⟨w.heap.size, 129 + x * 6 + 3, none⟩ = some (.int .i64 (L.room x)) := hW.cod.being x 3 (by omega) (by omega)
                have c2 : W.cell? ⟨w.heap.size, 129 + y * 6 + 3, none⟩ = some (.int .i64 (L.room y)) := hW.cod.being y 3 (by omega) (by omega)
                have c3 : W.cell? ⟨w.heap.size, 129 + x * 6 + 2, none⟩ = some (.bool (L.keen x)) := hW.cod.being x 2 (by omega) (by omega)
                go_simp
                try with_reducible rfl
              simp only [Act.put, List.setIfInBounds_toArray, List.set]
              refine take_at (i := 21) (d := some 38) (fuel := 17) (v := ?_) rfl rfl (by kernel_rfl) (by kernel_rfl) (by kernel_rfl) (fun _ _ _ h => h) (Or.inl ⟨by rfl, ?_⟩) G2d ?_
              rotate_left
              · intro W hW
                have c1 : W.cell? ⟨w.heap.size, 129 + x * 6 + 3, none⟩ = some (.int .i64 (L.room x)) := hW.cod.being x 3 (by omega) (by omega)
                have c2 : W.cell? ⟨w.heap.size, 129 + y * 6 + 3, none⟩ = some (.int .i64 (L.room y)) := hW.cod.being y 3 (by omega) (by omega)
                have c3 : W.cell? ⟨w.heap.size, 129 + x * 6 + 2, none⟩ = some (.bool (L.keen x)) := hW.cod.being x 2 (by omega) (by omega)
                go_simp
                try with_reducible rfl
              simp only [Act.put, List.setIfInBounds_toArray, List.set]
              refine wpAnyH_all (fuel := 16) (rs := [22]) (by kernel_rfl) (by simp) ?_
              intro i hi
              obtain rfl : i = 22 := by simpa using hi
              clear hi
              refine call_at (d := some 39) rfl rfl (by rfl) 46 #[.agg L.cells, .int .i64 (L.room y)] (by kernel_rfl) ?_
              refine (isbright_any L (L.room y) _).mono ?_
              rintro e x1 ⟨rfl, hb⟩
              have S1 := G2d.call hb
              clear hb
              rw [hbr]
              refine ⟨_, rfl, S1, ?_⟩
              simp only [Act.put, List.setIfInBounds_toArray, List.set]
              refine take_at (i := 23) (d := some 40) (fuel := 15) (v := ?_) rfl rfl (by kernel_rfl) (by kernel_rfl) (by kernel_rfl) (fun _ _ _ h => h) (Or.inl ⟨by rfl, ?_⟩) S1 ?_
              rotate_left
              · intro W hW
                have c1 : W.cell? ⟨w.heap.size, 129 + x * 6 + 3, none⟩ = some (.int .i64 (L.room x)) := hW.cod.being x 3 (by omega) (by omega)
                have c2 : W.cell? ⟨w.heap.size, 129 + y * 6 + 3, none⟩ = some (.int .i64 (L.room y)) := hW.cod.being y 3 (by omega) (by omega)
                have c3 : W.cell? ⟨w.heap.size, 129 + x * 6 + 2, none⟩ = some (.bool (L.keen x)) := hW.cod.being x 2 (by omega) (by omega)
                go_simp
                try with_reducible rfl
              simp only [Act.put, List.setIfInBounds_toArray, List.set]
              refine take_at (i := 24) (d := some 41) (fuel := 14) (v := ?_) rfl rfl (by kernel_rfl) (by kernel_rfl) (by kernel_rfl) (fun _ _ _ h => h) (Or.inl ⟨by rfl, ?_⟩) S1 ?_
              rotate_left
              · intro W hW
                have c1 : W.cell? ⟨w.heap.size, 129 + x * 6 + 3, none⟩ = some (.int .i64 (L.room x)) := hW.cod.being x 3 (by omega) (by omega)
                have c2 : W.cell? ⟨w.heap.size, 129 + y * 6 + 3, none⟩ = some (.int .i64 (L.room y)) := hW.cod.being y 3 (by omega) (by omega)
                have c3 : W.cell? ⟨w.heap.size, 129 + x * 6 + 2, none⟩ = some (.bool (L.keen x)) := hW.cod.being x 2 (by omega) (by omega)
                go_simp
                try with_reducible rfl
              simp only [Act.put, List.setIfInBounds_toArray, List.set]
              refine take_at (i := 25) (d := some 42) (fuel := 13) (v := .agg L.cells) rfl rfl (by kernel_rfl) (by kernel_rfl) (by kernel_rfl) (fun _ _ _ h => h) (Or.inl ⟨by rfl, fun W hW => exec_land (.tmp 3) rfl w.heap.size rfl hW.cod⟩) S1 ?_
              simp only [Act.put, List.setIfInBounds_toArray, List.set]
              refine take_at (i := 26) (d := some 43) (fuel := 12) (v := ?_) rfl rfl (by kernel_rfl) (by kernel_rfl) (by kernel_rfl) (fun _ _ _ h => h) (Or.inl ⟨by rfl, ?_⟩) S1 ?_
              rotate_left
              · intro W hW
                have c1 : W.cell? ⟨w.heap.size, 129 + x * 6 + 3, none⟩ = some (.int .i64 (L.room x)) := hW.cod.being x 3 (by omega) (by omega)
                have c2 : W.cell? ⟨w.heap.size, 129 + y * 6 + 3, none⟩ = some (.int .i64 (L.room y)) := hW.cod.being y 3 (by omega) (by omega)
                have c3 : W.cell? ⟨w.heap.size, 129 + x * 6 + 2, none⟩ = some (.bool (L.keen x)) := hW.cod.being x 2 (by omega) (by omega)
                go_simp
                try with_reducible rfl
              simp only [Act.put, List.setIfInBounds_toArray, List.set]
              refine wpAnyH_all (fuel := 11) (rs := [27]) (by kernel_rfl) (by simp) ?_
              intro i hi
              obtain rfl : i = 27 := by simpa using hi
              clear hi
              refine call_at (d := some 44) rfl rfl (by rfl) 83 #[.agg L.cells, .int .i64 (y : Int)] (by kernel_rfl) ?_
              refine (ishidden_any L (y : Int) _).mono ?_
              rintro e x2 ⟨rfl, hb⟩
              have S2 := S1.call hb
              clear hb
              rw [hhi]
              refine ⟨_, rfl, S2, ?_⟩
              simp only [Act.put, List.setIfInBounds_toArray, List.set]
              refine take_at (i := 28) (d := some 45) (fuel := 10) (v := ?_) rfl rfl (by kernel_rfl) (by kernel_rfl) (by kernel_rfl) (fun _ _ _ h => h) (Or.inl ⟨by rfl, ?_⟩) S2 ?_
              rotate_left
              · intro W hW
                have c1 : W.cell? ⟨w.heap.size, 129 + x * 6 + 3, none⟩ = some (.int .i64 (L.room x)) := hW.cod.being x 3 (by omega) (by omega)
                have c2 : W.cell? ⟨w.heap.size, 129 + y * 6 + 3, none⟩ = some (.int .i64 (L.room y)) := hW.cod.being y 3 (by omega) (by omega)
                have c3 : W.cell? ⟨w.heap.size, 129 + x * 6 + 2, none⟩ = some (.bool (L.keen x)) := hW.cod.being x 2 (by omega) (by omega)
                go_simp
                try with_reducible rfl
              simp only [Act.put, List.setIfInBounds_toArray, List.set]
              refine take_at (i := 29) (d := some 46) (fuel := 9) (v := ?_) rfl rfl (by kernel_rfl) (by kernel_rfl) (by kernel_rfl) (fun _ _ _ h => h) (Or.inl ⟨by rfl, ?_⟩) S2 ?_
              rotate_left
              · intro W hW
                have c1 : W.cell? ⟨w.heap.size, 129 + x * 6 + 3, none⟩ = some (.int .i64 (L.room x)) := hW.cod.being x 3 (by omega) (by omega)
                have c2 : W.cell? ⟨w.heap.size, 129 + y * 6 + 3, none⟩ = some (.int .i64 (L.room y)) := hW.cod.being y 3 (by omega) (by omega)
                have c3 : W.cell? ⟨w.heap.size, 129 + x * 6 + 2, none⟩ = some (.bool (L.keen x)) := hW.cod.being x 2 (by omega) (by omega)
                go_simp
                try with_reducible rfl
              simp only [Act.put, List.setIfInBounds_toArray, List.set]
              refine take_at (i := 30) (d := some 47) (fuel := 8) (v := ?_) rfl rfl (by kernel_rfl) (by kernel_rfl) (by kernel_rfl) (fun _ _ _ h => h) (Or.inl ⟨by rfl, ?_⟩) S2 ?_
              rotate_left
              · intro W hW
                have c1 : W.cell? ⟨w.heap.size, 129 + x * 6 + 3, none⟩ = some (.int .i64 (L.room x)) := hW.cod.being x 3 (by omega) (by omega)
                have c2 : W.cell? ⟨w.heap.size, 129 + y * 6 + 3, none⟩ = some (.int .i64 (L.room y)) := hW.cod.being y 3 (by omega) (by omega)
                have c3 : W.cell? ⟨w.heap.size, 129 + x * 6 + 2, none⟩ = some (.bool (L.keen x)) := hW.cod.being x 2 (by omega) (by omega)
                go_simp
                try with_reducible rfl
              simp only [Act.put, List.setIfInBounds_toArray, List.set]
              refine take_at (i := 31) (d := some 48) (fuel := 7) (v := ?_) rfl rfl (by kernel_rfl) (by kernel_rfl) (by kernel_rfl) (fun _ _ _ h => h) (Or.inl ⟨by rfl, ?_⟩) S2 ?_
              rotate_left
              · intro W hW
                have c1 : W.cell? ⟨w.heap.size, 129 + x * 6 + 3, none⟩ = some (.int .i64 (L.room x)) := hW.cod.being x 3 (by omega) (by omega)
                have c2 : W.cell? ⟨w.heap.size, 129 + y * 6 + 3, none⟩ = some (.int .i64 (L.room y)) := hW.cod.being y 3 (by omega) (by omega)
                have c3 : W.cell? ⟨w.heap.size, 129 + x * 6 + 2, none⟩ = some (.bool (L.keen x)) := hW.cod.being x 2 (by omega) (by omega)
                go_simp
                try with_reducible rfl
              simp only [Act.put, List.setIfInBounds_toArray, List.set]
              refine take_at (i := 32) (d := some 49) (fuel := 6) (v := ?_) rfl rfl (by kernel_rfl) (by kernel_rfl) (by kernel_rfl) (fun _ _ _ h => h) (Or.inl ⟨by rfl, ?_⟩) S2 ?_
              rotate_left
              · intro W hW
                have c1 : W.cell? ⟨w.heap.size, 129 + x * 6 + 3, none⟩ = some (.int .i64 (L.room x)) := hW.cod.being x 3 (by omega) (by omega)
                have c2 : W.cell? ⟨w.heap.size, 129 + y * 6 + 3, none⟩ = some (.int .i64 (L.room y)) := hW.cod.being y 3 (by omega) (by omega)
                have c3 : W.cell? ⟨w.heap.size, 129 + x * 6 + 2, none⟩ = some (.bool (L.keen x)) := hW.cod.being x 2 (by omega) (by omega)
                go_simp
                try with_reducible rfl
              simp only [Act.put, List.setIfInBounds_toArray, List.set]
              refine take_at (i := 33) (d := some 50) (fuel := 5) (v := ?_) rfl rfl (by kernel_rfl) (by kernel_rfl) (by kernel_rfl) (fun _ _ _ h => h) (Or.inl ⟨by rfl, ?_⟩) S2 ?_
              rotate_left
              · intro W hW
                have c1 : W.cell? ⟨w.heap.size, 129 + x * 6 + 3, none⟩ = some (.int .i64 (L.room x)) := hW.cod.being x 3 (by omega) (by omega)
                have c2 : W.cell? ⟨w.heap.size, 129 + y * 6 + 3, none⟩ = some (.int .i64 (L.room y)) := hW.cod.being y 3 (by omega) (by omega)
                have c3 : W.cell? ⟨w.heap.size, 129 + x * 6 + 2, none⟩ = some (.bool (L.keen x)) := hW.cod.being x 2 (by omega) (by omega)
                go_simp
                try with_reducible rfl
              simp only [Act.put, List.setIfInBounds_toArray, List.set]
              refine take_at (i := 34) (d := some 51) (fuel := 4) (v := ?_) rfl rfl (by kernel_rfl) (by kernel_rfl) (by kernel_rfl) (fun _ _ _ h => h) (Or.inl ⟨by rfl, ?_⟩) S2 ?_
              rotate_left
              · intro W hW
                have c1 : W.cell? ⟨w.heap.size, 129 + x * 6 + 3, none⟩ = some (.int .i64 (L.room x)) := hW.cod.being x 3 (by omega) (by omega)
                have c2 : W.cell? ⟨w.heap.size, 129 + y * 6 + 3, none⟩ = some (.int .i64 (L.room y)) := hW.cod.being y 3 (by omega) (by omega)
                have c3 : W.cell? ⟨w.heap.size, 129 + x * 6 + 2, none⟩ = some (.bool (L.keen x)) := hW.cod.being x 2 (by omega) (by omega)
                go_simp
                try with_reducible rfl
              simp only [Act.put, List.setIfInBounds_toArray, List.set]
              refine take_at (i := 35) (d := some 52) (fuel := 3) (v := ?_) rfl rfl (by kernel_rfl) (by kernel_rfl) (by kernel_rfl) (fun _ _ _ h => h) (Or.inl ⟨by rfl, ?_⟩) S2 ?_
              rotate_left
              · intro W hW
                have c1 : W.cell? ⟨w.heap.size, 129 + x * 6 + 3, none⟩ = some (.int .i64 (L.room x)) := hW.cod.being x 3 (by omega) (by omega)
                have c2 : W.cell? ⟨w.heap.size, 129 + y * 6 + 3, none⟩ = some (.int .i64 (L.room y)) := hW.cod.being y 3 (by omega) (by omega)
                have c3 : W.cell? ⟨w.heap.size, 129 + x * 6 + 2, none⟩ = some (.bool (L.keen x)) := hW.cod.being x 2 (by omega) (by omega)
                go_simp
                try with_reducible rfl
              simp only [Act.put, List.setIfInBounds_toArray, List.set]
              refine take_at (i := 36) (d := some 53) (fuel := 2) (v := ?_) rfl rfl (by kernel_rfl) (by kernel_rfl) (by kernel_rfl) (fun _ _ _ h => h) (Or.inl ⟨by rfl, ?_⟩) S2 ?_
              rotate_left
              · intro W hW
                have c1 : W.cell? ⟨w.heap.size, 129 + x * 6 + 3, none⟩ = some (.int .i64 (L.room x)) := hW.cod.being x 3 (by omega) (by omega)
                have c2 : W.cell? ⟨w.heap.size, 129 + y * 6 + 3, none⟩ = some (.int .i64 (L.room y)) := hW.cod.being y 3 (by omega) (by omega)
                have c3 : W.cell? ⟨w.heap.size, 129 + x * 6 + 2, none⟩ = some (.bool (L.keen x)) := hW.cod.being x 2 (by omega) (by omega)
                go_simp
                try with_reducible rfl
              simp only [Act.put, List.setIfInBounds_toArray, List.set]
              refine take_at (i := 37) (d := some 54) (fuel := 1) (v := ?_) rfl rfl (by kernel_rfl) (by kernel_rfl) (by kernel_rfl) (fun _ _ _ h => h) (Or.inl ⟨by rfl, ?_⟩) S2 ?_
              rotate_left
              · intro W hW
                have c1 : W.cell? ⟨w.heap.size, 129 + x * 6 + 3, none⟩ = some (.int .i64 (L.room x)) := hW.cod.being x 3 (by omega) (by omega)
                have c2 : W.cell? ⟨w.heap.size, 129 + y * 6 + 3, none⟩ = some (.int .i64 (L.room y)) := hW.cod.being y 3 (by omega) (by omega)
                have c3 : W.cell? ⟨w.heap.size, 129 + x * 6 + 2, none⟩ = some (.bool (L.keen x)) := hW.cod.being x 2 (by omega) (by omega)
                go_simp
                try with_reducible rfl
              simp only [Act.put, List.setIfInBounds_toArray, List.set]
              refine take_at (i := 38) (d := some 6) (fuel := 0) (v := ?_) rfl rfl (by kernel_rfl) (by kernel_rfl) (by kernel_rfl) (fun _ _ _ h => h) (Or.inl ⟨by rfl, ?_⟩) S2 ?_
              rotate_left
              · intro W hW
                have c1 : W.cell? ⟨w.heap.size, 129 + x * 6 + 3, none⟩ = some (.int .i64 (L.room x)) := hW.cod.being x 3 (by omega) (by omega)
                have c2 : W.cell? ⟨w.heap.size, 129 + y * 6 + 3, none⟩ = some (.int .i64 (L.room y)) := hW.cod.being y 3 (by omega) (by omega)
                have c3 : W.cell? ⟨w.heap.size, 129 + x * 6 + 2, none⟩ = some (.bool (L.keen x)) := hW.cod.being x 2 (by omega) (by omega)
                go_simp
                try with_reducible rfl
              simp only [Act.put, List.setIfInBounds_toArray, List.set]
              refine wpAnyH_done (by kernel_rfl) ?_ _
              go_wp2
              go_ret
              exact ⟨ret_bool HN.out.symm, S2.low⟩
        · have fr : (L.room x == L.room y) = false := by simp [hr]
          have HN := hide (show seesL L (x : Int) (y : Int) = false by rw [HV.out, decide_eq_false hr]; rfl)
          clear hr
          go_enter Tryd.func51, Tryd.ntmps51
          go_wp2_with (refine wl_land (.tmp 3) rfl rfl _ L rfl (cod_new w L) ?_)
          refine (about_any L (x : Int) _).mono ?_
          rintro e w1 ⟨rfl, hb⟩
          have G1 := hide ((gd_start L w).call hb)
          rw [HA.out]
          clear hb
          go_wp2_with (refine wl_land (.tmp 3) rfl rfl _ L rfl G1.out.cod ?_)
          refine (about_any L (y : Int) _).mono ?_
          rintro e w2 ⟨rfl, hb⟩
          have G2 := hide (G1.out.call hb)
          rw [HB.out]
          clear hb
          have G2d : GdRel L w w2.drew := G2.out.drew
          go_wp2_with fail
          refine wp_region_held (S := fun W => GdRel L w W) (by kernel_rfl) ?_
          refine take_at (i := 0) (d := some 17) (fuel := 38) (v := ?_) rfl rfl (by kernel_rfl) (by kernel_rfl) (by kernel_rfl) (fun _ _ _ h => h) (Or.inl ⟨by rfl, ?_⟩) G2d ?_
          rotate_left
          · intro W hW
            have c1 : W.cell? ⟨w.heap.size, 129 + x * 6 + 3, none⟩ = some (.int .i64 (L.room x)) := hW.cod.being x 3 (by omega) (by omega)
            have c2 : W.cell? ⟨w.heap.size, 129 + y * 6 + 3, none⟩ = some (.int .i64 (L.room y)) := hW.cod.being y 3 (by omega) (by omega)
            have c3 : W.cell? ⟨w.heap.size, 129 + x * 6 + 2, none⟩ = some (.bool (L.keen x)) := hW.cod.being x 2 (by omega) (by omega)
            go_simp
            try with_reducible rfl
          simp only [Act.put, List.setIfInBounds_toArray, List.set]
          refine take_at (i := 1) (d := some 18) (fuel := 37) (v := ?_) rfl rfl (by kernel_rfl) (by kernel_rfl) (by kernel_rfl) (fun _ _ _ h => h) (Or.inl ⟨by rfl, ?_⟩) G2d ?_
          rotate_left
          · intro W hW
            have c1 : W.cell? ⟨w.heap.size, 129 + x * 6 + 3, none⟩ = some (.int .i64 (L.room x)) := hW.cod.being x 3 (by omega) (by omega)
            have c2 : W.cell? ⟨w.heap.size, 129 + y * 6 + 3, none⟩ = some (.int .i64 (L.room y)) := hW.cod.being y 3 (by omega) (by omega)
            have c3 : W.cell? ⟨w.heap.size, 129 + x * 6 + 2, none⟩ = some (.bool (L.keen x)) := hW.cod.being x 2 (by omega) (by omega)
            go_simp
            try with_reducible rfl
          simp only [Act.put, List.setIfInBounds_toArray, List.set]
          refine take_at (i := 2) (d := some 19) (fuel := 36) (v := ?_) rfl rfl (by kernel_rfl) (by kernel_rfl) (by kernel_rfl) (fun _ _ _ h => h) (Or.inl ⟨by rfl, ?_⟩) G2d ?_
          rotate_left
          · intro W hW
            have c1 : W.cell? ⟨w.heap.size, 129 + x * 6 + 3, none⟩ = some (.int .i64 (L.room x)) := hW.cod.being x 3 (by omega) (by omega)
            have c2 : W.cell? ⟨w.heap.size, 129 + y * 6 + 3, none⟩ = some (.int .i64 (L.room y)) := hW.cod.being y 3 (by omega) (by omega)
            have c3 : W.cell? ⟨w.heap.size, 129 + x * 6 + 2, none⟩ = some (.bool (L.keen x)) := hW.cod.being x 2 (by omega) (by omega)
            go_simp
            try with_reducible rfl
          simp only [Act.put, List.setIfInBounds_toArray, List.set]
          refine take_at (i := 3) (d := some 20) (fuel := 35) (v := ?_) rfl rfl (by kernel_rfl) (by kernel_rfl) (by kernel_rfl) (fun _ _ _ h => h) (Or.inl ⟨by rfl, ?_⟩) G2d ?_
          rotate_left
          · intro W hW
            have c1 : W.cell? ⟨w.heap.size, 129 + x * 6 + 3, none⟩ = some (.int .i64 (L.room x)) := hW.cod.being x 3 (by omega) (by omega)
            have c2 : W.cell? ⟨w.heap.size, 129 + y * 6 + 3, none⟩ = some (.int .i64 (L.room y)) := hW.cod.being y 3 (by omega) (by omega)
            have c3 : W.cell? ⟨w.heap.size, 129 + x * 6 + 2, none⟩ = some (.bool (L.keen x)) := hW.cod.being x 2 (by omega) (by omega)
            go_simp
            try with_reducible rfl
          simp only [Act.put, List.setIfInBounds_toArray, List.set]
          refine take_at (i := 4) (d := some 21) (fuel := 34) (v := ?_) rfl rfl (by kernel_rfl) (by kernel_rfl) (by kernel_rfl) (fun _ _ _ h => h) (Or.inl ⟨by rfl, ?_⟩) G2d ?_
          rotate_left
          · intro W hW
            have c1 : W.cell? ⟨w.heap.size, 129 + x * 6 + 3, none⟩ = some (.int .i64 (L.room x)) := hW.cod.being x 3 (by omega) (by omega)
            have c2 : W.cell? ⟨w.heap.size, 129 + y * 6 + 3, none⟩ = some (.int .i64 (L.room y)) := hW.cod.being y 3 (by omega) (by omega)
            have c3 : W.cell? ⟨w.heap.size, 129 + x * 6 + 2, none⟩ = some (.bool (L.keen x)) := hW.cod.being x 2 (by omega) (by omega)
            go_simp
            try with_reducible rfl
          simp only [Act.put, List.setIfInBounds_toArray, List.set]
          refine take_at (i := 5) (d := some 22) (fuel := 33) (v := ?_) rfl rfl (by kernel_rfl) (by kernel_rfl) (by kernel_rfl) (fun _ _ _ h => h) (Or.inl ⟨by rfl, ?_⟩) G2d ?_
          rotate_left
          · intro W hW
            have c1 : W.cell? ⟨w.heap.size, 129 + x * 6 + 3, none⟩ = some (.int .i64 (L.room x)) := hW.cod.being x 3 (by omega) (by omega)
            have c2 : W.cell? ⟨w.heap.size, 129 + y * 6 + 3, none⟩ = some (.int .i64 (L.room y)) := hW.cod.being y 3 (by omega) (by omega)
            have c3 : W.cell? ⟨w.heap.size, 129 + x * 6 + 2, none⟩ = some (.bool (L.keen x)) := hW.cod.being x 2 (by omega) (by omega)
            go_simp
            try with_reducible rfl
          simp only [Act.put, List.setIfInBounds_toArray, List.set]
          refine take_at (i := 6) (d := some 23) (fuel := 32) (v := ?_) rfl rfl (by kernel_rfl) (by kernel_rfl) (by kernel_rfl) (fun _ _ _ h => h) (Or.inl ⟨by rfl, ?_⟩) G2d ?_
          rotate_left
          · intro W hW
            have c1 : W.cell? ⟨w.heap.size, 129 + x * 6 + 3, none⟩ = some (.int .i64 (L.room x)) := hW.cod.being x 3 (by omega) (by omega)
            have c2 : W.cell? ⟨w.heap.size, 129 + y * 6 + 3, none⟩ = some (.int .i64 (L.room y)) := hW.cod.being y 3 (by omega) (by omega)
            have c3 : W.cell? ⟨w.heap.size, 129 + x * 6 + 2, none⟩ = some (.bool (L.keen x)) := hW.cod.being x 2 (by omega) (by omega)
            go_simp
            try with_reducible rfl
          simp only [Act.put, List.setIfInBounds_toArray, List.set]
          refine take_at (i := 7) (d := some 24) (fuel := 31) (v := ?_) rfl rfl (by kernel_rfl) (by kernel_rfl) (by kernel_rfl) (fun _ _ _ h => h) (Or.inl ⟨by rfl, ?_⟩) G2d ?_
          rotate_left
          · intro W hW
            have c1 : W.cell? ⟨w.heap.size, 129 + x * 6 + 3, none⟩ = some (.int .i64 (L.room x)) := hW.cod.being x 3 (by omega) (by omega)
            have c2 : W.cell? ⟨w.heap.size, 129 + y * 6 + 3, none⟩ = some (.int .i64 (L.room y)) := hW.cod.being y 3 (by omega) (by omega)
            have c3 : W.cell? ⟨w.heap.size, 129 + x * 6 + 2, none⟩ = some (.bool (L.keen x)) := hW.cod.being x 2 (by omega) (by omega)
            go_simp
            try with_reducible rfl
          simp only [Act.put, List.setIfInBounds_toArray, List.set]
          refine take_at (i := 8) (d := some 25) (fuel := 30) (v := ?_) rfl rfl (by kernel_rfl) (by kernel_rfl) (by kernel_rfl) (fun _ _ _ h => h) (Or.inl ⟨by rfl, ?_⟩) G2d ?_
          rotate_left
          · intro W hW
            have c1 : W.cell? ⟨w.heap.size, 129 + x * 6 + 3, none⟩ = some (.int .i64 (L.room x)) := hW.cod.being x 3 (by omega) (by omega)
            have c2 : W.cell? ⟨w.heap.size, 129 + y * 6 + 3, none⟩ = some (.int .i64 (L.room y)) := hW.cod.being y 3 (by omega) (by omega)
            have c3 : W.cell? ⟨w.heap.size, 129 + x * 6 + 2, none⟩ = some (.bool (L.keen x)) := hW.cod.being x 2 (by omega) (by omega)
            go_simp
            try with_reducible rfl
          simp only [Act.put, List.setIfInBounds_toArray, List.set]
          refine take_at (i := 9) (d := some 26) (fuel := 29) (v := ?_) rfl rfl (by kernel_rfl) (by kernel_rfl) (by kernel_rfl) (fun _ _ _ h => h) (Or.inl ⟨by rfl, ?_⟩) G2d ?_
          rotate_left
          · intro W hW
            have c1 : W.cell? ⟨w.heap.size, 129 + x * 6 + 3, none⟩ = some (.int .i64 (L.room x)) := hW.cod.being x 3 (by omega) (by omega)
            have c2 : W.cell? ⟨w.heap.size, 129 + y * 6 + 3, none⟩ = some (.int .i64 (L.room y)) := hW.cod.being y 3 (by omega) (by omega)
            have c3 : W.cell? ⟨w.heap.size, 129 + x * 6 + 2, none⟩ = some (.bool (L.keen x)) := hW.cod.being x 2 (by omega) (by omega)
            go_simp
            try with_reducible rfl
          simp only [Act.put, List.setIfInBounds_toArray, List.set]
          refine take_at (i := 10) (d := some 27) (fuel := 28) (v := ?_) rfl rfl (by kernel_rfl) (by kernel_rfl) (by kernel_rfl) (fun _ _ _ h => h) (Or.inl ⟨by rfl, ?_⟩) G2d ?_
          rotate_left
          · intro W hW
            have c1 : W.cell? ⟨w.heap.size, 129 + x * 6 + 3, none⟩ = some (.int .i64 (L.room x)) := hW.cod.being x 3 (by omega) (by omega)
            have c2 : W.cell? ⟨w.heap.size, 129 + y * 6 + 3, none⟩ = some (.int .i64 (L.room y)) := hW.cod.being y 3 (by omega) (by omega)
            have c3 : W.cell? ⟨w.heap.size, 129 + x * 6 + 2, none⟩ = some (.bool (L.keen x)) := hW.cod.being x 2 (by omega) (by omega)
            go_simp
            try with_reducible rfl
          simp only [Act.put, List.setIfInBounds_toArray, List.set]
          refine take_at (i := 11) (d := some 28) (fuel := 27) (v := ?_) rfl rfl (by kernel_rfl) (by kernel_rfl) (by kernel_rfl) (fun _ _ _ h => h) (Or.inl ⟨by rfl, ?_⟩) G2d ?_
          rotate_left
          · intro W hW
            have c1 : W.cell? ⟨w.heap.size, 129 + x * 6 + 3, none⟩ = some (.int .i64 (L.room x)) := hW.cod.being x 3 (by omega) (by omega)
            have c2 : W.cell? ⟨w.heap.size, 129 + y * 6 + 3, none⟩ = some (.int .i64 (L.room y)) := hW.cod.being y 3 (by omega) (by omega)
            have c3 : W.cell? ⟨w.heap.size, 129 + x * 6 + 2, none⟩ = some (.bool (L.keen x)) := hW.cod.being x 2 (by omega) (by omega)
            go_simp
            try with_reducible rfl
          simp only [Act.put, List.setIfInBounds_toArray, List.set]
          refine take_at (i := 12) (d := some 29) (fuel := 26) (v := ?_) rfl rfl (by kernel_rfl) (by kernel_rfl) (by kernel_rfl) (fun _ _ _ h => h) (Or.inl ⟨by rfl, ?_⟩) G2d ?_
          rotate_left
          · intro W hW
            have c1 : W.cell? ⟨w.heap.size, 129 + x * 6 + 3, none⟩ = some (.int .i64 (L.room x)) := hW.cod.being x 3 (by omega) (by omega)
            have c2 : W.cell? ⟨w.heap.size, 129 + y * 6 + 3, none⟩ = some (.int .i64 (L.room y)) := hW.cod.being y 3 (by omega) (by omega)
            have c3 : W.cell? ⟨w.heap.size, 129 + x * 6 + 2, none⟩ = some (.bool (L.keen x)) := hW.cod.being x 2 (by omega) (by omega)
            go_simp
            try with_reducible rfl
          simp only [Act.put, List.setIfInBounds_toArray, List.set]
          refine take_at (i := 13) (d := some 30) (fuel := 25) (v := ?_) rfl rfl (by kernel_rfl) (by kernel_rfl) (by kernel_rfl) (fun _ _ _ h => h) (Or.inl ⟨by rfl, ?_⟩) G2d ?_
          rotate_left
          · intro W hW
            have c1 : W.cell? ⟨w.heap.size, 129 + x * 6 + 3, none⟩ = some (.int .i64 (L.room x)) := hW.cod.being x 3 (by omega) (by omega)
            have c2 : W.cell? ⟨w.heap.size, 129 + y * 6 + 3, none⟩ = some (.int .i64 (L.room y)) := hW.cod.being y 3 (by omega) (by omega)
            have c3 : W.cell? ⟨w.heap.size, 129 + x * 6 + 2, none⟩ = some (.bool (L.keen x)) := hW.cod.being x 2 (by omega) (by omega)
            go_simp
            try with_reducible rfl
          simp only [Act.put, List.setIfInBounds_toArray, List.set]
          refine take_at (i := 14) (d := some 31) (fuel := 24) (v := ?_) rfl rfl (by kernel_rfl) (by kernel_rfl) (by kernel_rfl) (fun _ _ _ h => h) (Or.inl ⟨by rfl, ?_⟩) G2d ?_
          rotate_left
          · intro W hW
            have c1 : W.cell? ⟨w.heap.size, 129 + x * 6 + 3, none⟩ = some (.int .i64 (L.room x)) := hW.cod.being x 3 (by omega) (by omega)
            have c2 : W.cell? ⟨w.heap.size, 129 + y * 6 + 3, none⟩ = some (.int .i64 (L.room y)) := hW.cod.being y 3 (by omega) (by omega)
            have c3 : W.cell? ⟨w.heap.size, 129 + x * 6 + 2, none⟩ = some (.bool (L.keen x)) := hW.cod.being x 2 (by omega) (by omega)
            go_simp
            try with_reducible rfl
          simp only [Act.put, List.setIfInBounds_toArray, List.set]
          refine take_at (i := 15) (d := some 32) (fuel := 23) (v := ?_) rfl rfl (by kernel_rfl) (by kernel_rfl) (by kernel_rfl) (fun _ _ _ h => h) (Or.inl ⟨by rfl, ?_⟩) G2d ?_
          rotate_left
          · intro W hW
            have c1 : W.cell? ⟨w.heap.size, 129 + x * 6 + 3, none⟩ = some (.int .i64 (L.room x)) := hW.cod.being x 3 (by omega) (by omega)
            have c2 : W.cell? ⟨w.heap.size, 129 + y * 6 + 3, none⟩ = some (.int .i64 (L.room y)) := hW.cod.being y 3 (by omega) (by omega)
            have c3 : W.cell? ⟨w.heap.size, 129 + x * 6 + 2, none⟩ = some (.bool (L.keen x)) := hW.cod.being x 2 (by omega) (by omega)
            go_simp
            try with_reducible rfl
          simp only [Act.put, List.setIfInBounds_toArray, List.set]
          refine take_at (i := 16) (d := some 33) (fuel := 22) (v := undef) rfl rfl (by kernel_rfl) (by kernel_rfl) (by kernel_rfl) (fun _ _ _ h => h) (Or.inr ⟨by rfl, rfl⟩) G2d ?_
          simp only [Act.put, List.setIfInBounds_toArray, List.set]
          refine take_at (i := 17) (d := some 34) (fuel := 21) (v := undef) rfl rfl (by kernel_rfl) (by kernel_rfl) (by kernel_rfl) (fun _ _ _ h => h) (Or.inr ⟨by rfl, rfl⟩) G2d ?_
          simp only [Act.put, List.setIfInBounds_toArray, List.set]
          refine take_at (i := 18) (d := some 35) (fuel := 20) (v := undef) rfl rfl (by kernel_rfl) (by kernel_rfl) (by kernel_rfl) (fun _ _ _ h => h) (Or.inr ⟨by rfl, rfl⟩) G2d ?_
          simp only [Act.put, List.setIfInBounds_toArray, List.set]
          refine take_at (i := 19) (d := some 36) (fuel := 19) (v := undef) rfl rfl (by kernel_rfl) (by kernel_rfl) (by kernel_rfl) (fun _ _ _ h => h) (Or.inr ⟨by rfl, rfl⟩) G2d ?_
          simp only [Act.put, List.setIfInBounds_toArray, List.set]
          refine take_at (i := 20) (d := some 37) (fuel := 18) (v := undef) rfl rfl (by kernel_rfl) (by kernel_rfl) (by kernel_rfl) (fun _ _ _ h => h) (Or.inr ⟨by rfl, rfl⟩) G2d ?_
          simp only [Act.put, List.setIfInBounds_toArray, List.set]
          refine take_at (i := 21) (d := some 38) (fuel := 17) (v := undef) rfl rfl (by kernel_rfl) (by kernel_rfl) (by kernel_rfl) (fun _ _ _ h => h) (Or.inr ⟨by rfl, rfl⟩) G2d ?_
          simp only [Act.put, List.setIfInBounds_toArray, List.set]
          refine take_at (i := 22) (d := some 39) (fuel := 16) (v := undef) rfl rfl (by kernel_rfl) (by kernel_rfl) (by kernel_rfl) (fun _ _ _ h => h) (Or.inr ⟨by rfl, rfl⟩) G2d ?_
          simp only [Act.put, List.setIfInBounds_toArray, List.set]
          refine take_at (i := 23) (d := some 40) (fuel := 15) (v := ?_) rfl rfl (by kernel_rfl) (by kernel_rfl) (by kernel_rfl) (fun _ _ _ h => h) (Or.inl ⟨by rfl, ?_⟩) G2d ?_
          rotate_left
          · intro W hW
            have c1 : W.cell? ⟨w.heap.size, 129 + x * 6 + 3, none⟩ = some (.int .i64 (L.room x)) := hW.cod.being x 3 (by omega) (by omega)
            have c2 : W.cell? ⟨w.heap.size, 129 + y * 6 + 3, none⟩ = some (.int .i64 (L.room y)) := hW.cod.being y 3 (by omega) (by omega)
            have c3 : W.cell? ⟨w.heap.size, 129 + x * 6 + 2, none⟩ = some (.bool (L.keen x)) := hW.cod.being x 2 (by omega) (by omega)
            go_simp
            try with_reducible rfl
          simp only [Act.put, List.setIfInBounds_toArray, List.set]
          refine take_at (i := 24) (d := some 41) (fuel := 14) (v := ?_) rfl rfl (by kernel_rfl) (by kernel_rfl) (by kernel_rfl) (fun _ _ _ h => h) (Or.inl ⟨by rfl, ?_⟩) G2d ?_
          rotate_left
          · intro W hW
            have c1 : W.cell? ⟨w.heap.size, 129 + x * 6 + 3, none⟩ = some (.int .i64 (L.room x)) := hW.cod.being x 3 (by omega) (by omega)
            have c2 : W.cell? ⟨w.heap.size, 129 + y * 6 + 3, none⟩ = some (.int .i64 (L.room y)) := hW.cod.being y 3 (by omega) (by omega)
            have c3 : W.cell? ⟨w.heap.size, 129 + x * 6 + 2, none⟩ = some (.bool (L.keen x)) := hW.cod.being x 2 (by omega) (by omega)
            go_simp
            try with_reducible rfl
          simp only [Act.put, List.setIfInBounds_toArray, List.set]
          refine take_at (i := 25) (d := some 42) (fuel := 13) (v := undef) rfl rfl (by kernel_rfl) (by kernel_rfl) (by kernel_rfl) (fun _ _ _ h => h) (Or.inr ⟨by rfl, rfl⟩) G2d ?_
          simp only [Act.put, List.setIfInBounds_toArray, List.set]
          refine take_at (i := 26) (d := some 43) (fuel := 12) (v := undef) rfl rfl (by kernel_rfl) (by kernel_rfl) (by kernel_rfl) (fun _ _ _ h => h) (Or.inr ⟨by rfl, rfl⟩) G2d ?_
          simp only [Act.put, List.setIfInBounds_toArray, List.set]
          refine take_at (i := 27) (d := some 44) (fuel := 11) (v := undef) rfl rfl (by kernel_rfl) (by kernel_rfl) (by kernel_rfl) (fun _ _ _ h => h) (Or.inr ⟨by rfl, rfl⟩) G2d ?_
          simp only [Act.put, List.setIfInBounds_toArray, List.set]
          refine take_at (i := 28) (d := some 45) (fuel := 10) (v := undef) rfl rfl (by kernel_rfl) (by kernel_rfl) (by kernel_rfl) (fun _ _ _ h => h) (Or.inr ⟨by rfl, rfl⟩) G2d ?_
          simp only [Act.put, List.setIfInBounds_toArray, List.set]
          refine take_at (i := 29) (d := some 46) (fuel := 9) (v := undef) rfl rfl (by kernel_rfl) (by kernel_rfl) (by kernel_rfl) (fun _ _ _ h => h) (Or.inr ⟨by rfl, rfl⟩) G2d ?_
          simp only [Act.put, List.setIfInBounds_toArray, List.set]
          refine take_at (i := 30) (d := some 47) (fuel := 8) (v := undef) rfl rfl (by kernel_rfl) (by kernel_rfl) (by kernel_rfl) (fun _ _ _ h => h) (Or.inr ⟨by rfl, rfl⟩) G2d ?_
          simp only [Act.put, List.setIfInBounds_toArray, List.set]
          refine take_at (i := 31) (d := some 48) (fuel := 7) (v := undef) rfl rfl (by kernel_rfl) (by kernel_rfl) (by kernel_rfl) (fun _ _ _ h => h) (Or.inr ⟨by rfl, rfl⟩) G2d ?_
          simp only [Act.put, List.setIfInBounds_toArray, List.set]
          refine take_at (i := 32) (d := some 49) (fuel := 6) (v := undef) rfl rfl (by kernel_rfl) (by kernel_rfl) (by kernel_rfl) (fun _ _ _ h => h) (Or.inr ⟨by rfl, rfl⟩) G2d ?_
          simp only [Act.put, List.setIfInBounds_toArray, List.set]
          refine take_at (i := 33) (d := some 50) (fuel := 5) (v := undef) rfl rfl (by kernel_rfl) (by kernel_rfl) (by kernel_rfl) (fun _ _ _ h => h) (Or.inr ⟨by rfl, rfl⟩) G2d ?_
          simp only [Act.put, List.setIfInBounds_toArray, List.set]
          refine take_at (i := 34) (d := some 51) (fuel := 4) (v := undef) rfl rfl (by kernel_rfl) (by kernel_rfl) (by kernel_rfl) (fun _ _ _ h => h) (Or.inr ⟨by rfl, rfl⟩) G2d ?_
          simp only [Act.put, List.setIfInBounds_toArray, List.set]
          refine take_at (i := 35) (d := some 52) (fuel := 3) (v := undef) rfl rfl (by kernel_rfl) (by kernel_rfl) (by kernel_rfl) (fun _ _ _ h => h) (Or.inr ⟨by rfl, rfl⟩) G2d ?_
          simp only [Act.put, List.setIfInBounds_toArray, List.set]
          refine take_at (i := 36) (d := some 53) (fuel := 2) (v := ?_) rfl rfl (by kernel_rfl) (by kernel_rfl) (by kernel_rfl) (fun _ _ _ h => h) (Or.inl ⟨by rfl, ?_⟩) G2d ?_
          rotate_left
          · intro W hW
            have c1 : W.cell? ⟨w.heap.size, 129 + x * 6 + 3, none⟩ = some (.int .i64 (L.room x)) := hW.cod.being x 3 (by omega) (by omega)
            have c2 : W.cell? ⟨w.heap.size, 129 + y * 6 + 3, none⟩ = some (.int .i64 (L.room y)) := hW.cod.being y 3 (by omega) (by omega)
            have c3 : W.cell? ⟨w.heap.size, 129 + x * 6 + 2, none⟩ = some (.bool (L.keen x)) := hW.cod.being x 2 (by omega) (by omega)
            go_simp
            try with_reducible rfl
          simp only [Act.put, List.setIfInBounds_toArray, List.set]
          refine take_at (i := 37) (d := some 54) (fuel := 1) (v := ?_) rfl rfl (by kernel_rfl) (by kernel_rfl) (by kernel_rfl) (fun _ _ _ h => h) (Or.inl ⟨by rfl, ?_⟩) G2d ?_
          rotate_left
          · intro W hW
            have c1 : W.cell? ⟨w.heap.size, 129 + x * 6 + 3, none⟩ = some (.int .i64 (L.room x)) := hW.cod.being x 3 (by omega) (by omega)
            have c2 : W.cell? ⟨w.heap.size, 129 + y * 6 + 3, none⟩ = some (.int .i64 (L.room y)) := hW.cod.being y 3 (by omega) (by omega)
            have c3 : W.cell? ⟨w.heap.size, 129 + x * 6 + 2, none⟩ = some (.bool (L.keen x)) := hW.cod.being x 2 (by omega) (by omega)
            go_simp
            try with_reducible rfl
          simp only [Act.put, List.setIfInBounds_toArray, List.set]
          refine take_at (i := 38) (d := some 6) (fuel := 0) (v := ?_) rfl rfl (by kernel_rfl) (by kernel_rfl) (by kernel_rfl) (fun _ _ _ h => h) (Or.inl ⟨by rfl, ?_⟩) G2d ?_
          rotate_left
          · intro W hW
            have c1 : W.cell? ⟨w.heap.size, 129 + x * 6 + 3, none⟩ = some (.int .i64 (L.room x)) := hW.cod.being x 3 (by omega) (by omega)
            have c2 : W.cell? ⟨w.heap.size, 129 + y * 6 + 3, none⟩ = some (.int .i64 (L.room y)) := hW.cod.being y 3 (by omega) (by omega)
            have c3 : W.cell? ⟨w.heap.size, 129 + x * 6 + 2, none⟩ = some (.bool (L.keen x)) := hW.cod.being x 2 (by omega) (by omega)
            go_simp
            try with_reducible rfl
          simp only [Act.put, List.setIfInBounds_toArray, List.set]
          refine wpAnyH_done (by kernel_rfl) ?_ _
          go_wp2
          go_ret
          exact ⟨ret_bool HN.out.symm, G2d.low⟩
end Go.Proofs.YtaifjndkgfffpaaDoor
