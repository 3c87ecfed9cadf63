/-
  The law SenseRooms: nothing is perceived from another room, nothing that another one is told, in the dark only what is loud; and the actor is someone just if it is not seen.
-/
import Derived.Test.YtdembcpljjgbkaeDoorSnKs
import Derived.Test.YtdembcpljjgbkaeDoorSnTake
namespace Go.Proofs.YtdembcpljjgbkaeDoor
open Go.RowKit
set_option linter.unusedVariables false

/-- What holds of what is perceived of another one's doing. -/
theorem rooms_far {L : Ld} {b kind room actor other : Int} (h : percL L b kind room actor other ≠ 0) (hn : b ≠ actor) :
    kind ≠ 16 ∧ L.room b.toNat = room ∧ (bits .and .i64 (percL L b kind room actor other) 2 != 0) = !seesL L b actor ∧ (loud kind = false → seesL L b actor = true ∧ brightL L room = true) := by
  obtain ⟨ha, h1, h2⟩ := perc_some h
  rcases h1 with h1 | ⟨h16, hr, hs⟩
  · exact absurd h1 hn
  · refine ⟨h16, hr, ?_, fun hl => ?_⟩
    · rw [h2]
      cases hse : seesL L b actor with
      | true => rw [if_neg (by simp)]; split <;> decide
      | false => rw [if_pos ⟨hn, by simp⟩]; split <;> decide
    · rcases hs with hs | hs
      · have := sees_far hs hn
        exact ⟨hs, by rw [← hr, this.1]; exact this.2.1⟩
      · rw [hl] at hs; simp at hs
theorem rooms_one {L : Ld} {b kind room actor other : Int} (h : percL L b kind room actor other ≠ 0) : (bits .and .i64 (percL L b kind room actor other) 1 == 0) = false := by
  rcases perc_cases L b kind room actor other with e | e | e | e | e
  · exact absurd e h
  all_goals rw [e]; decide
theorem rooms_own {L : Ld} {b kind room actor other : Int} (h : percL L b kind room actor other ≠ 0) (hn : b = actor) : (bits .and .i64 (percL L b kind room actor other) 2 == 0) = true := by
  obtain ⟨ha, _, h2⟩ := perc_some h
  rw [h2, if_neg (fun h => h.1 hn)]
  split <;> decide

set_option maxRecDepth 100000 in
set_option maxHeartbeats 2000000 in
theorem roomsW (L : Ld) (b : Int) (E : Ev) (w : World) (hv : Vb w) (hai : Ai w) :
    Calls Tryd.prog 3 #[.agg L.cells, .int .i64 b, .agg E.cells] w fun e w' => e = .returned (.bool true) ∧ Below w.heap.size w w' := by
  have HV := hide hv
  have HAi := hide hai
  have P0 := hide (pv_start L E w)
  have CP := hide (fun W => perc_any L b E W)
  clear hv hai
  by_cases hn : percL L b E.kind E.room E.actor E.other = 0
  · rw [hn] at CP
    go_enter Tryd.func3, Tryd.ntmps3
    go_wp2_with (first | (refine wl_land (.tmp 3) rfl rfl _ L rfl P0.out.cod ?_) | (refine wl_event (.tmp 5) rfl rfl _ E rfl P0.out.cev ?_))
    refine (CP.out _).mono ?_
    rintro e w1 ⟨rfl, hb⟩
    have G1 := hide (P0.out.call hb)
    clear hb hn
    go_wp2_with fail
    refine (ksenses_any _ (HV.out.below G1.out.low (Nat.le_refl _)) (HAi.out.below G1.out.low)).mono ?_
    rintro e w2 ⟨rfl, hb⟩
    have G2 := hide (G1.out.call hb)
    clear hb
    go_wp2
    go_ret
    exact ⟨rfl, G2.out.low⟩
  · have HF := hide (fun h : b ≠ E.actor => rooms_far hn h)
    have f1 := rooms_one hn
    have HO := hide (fun h : b = E.actor => rooms_own hn h)
    have ha := (perc_some hn).1
    have f0 : (percL L b E.kind E.room E.actor E.other == 0) = false := by simpa using hn
    have pa : amg b 6 = true := by simp only [abtL, Bool.and_eq_true] at ha; exact ha.1
    obtain ⟨b0, b6⟩ := amg_pos pa
    obtain ⟨k, rfl⟩ := Int.eq_ofNat_of_zero_le b0
    have HH := hide (show L.here k = true by simpa [abtL, pa] using ha)
    clear ha pa hn
    generalize percL L (k : Int) E.kind E.room E.actor E.other = n at *
    by_cases hown : (k : Int) = E.actor
    · have f2 := HO.out hown
      have fo : ((k : Int) == E.actor) = true := by simp [hown]
      clear hown HF HO
      go_enter Tryd.func3, Tryd.ntmps3
      go_wp2_with (first | (refine wl_land (.tmp 3) rfl rfl _ L rfl P0.out.cod ?_) | (refine wl_event (.tmp 5) rfl rfl _ E rfl P0.out.cev ?_))
      refine (CP.out _).mono ?_
      rintro e w1 ⟨rfl, hb⟩
      have G1 := hide (P0.out.call hb)
      clear hb
      go_wp2_with fail
      refine (ksenses_any _ (HV.out.below G1.out.low (Nat.le_refl _)) (HAi.out.below G1.out.low)).mono ?_
      rintro e w2 ⟨rfl, hb⟩
      have G2 := hide (G1.out.call hb)
      clear hb
      have kh : w2.cell? ⟨w.heap.size, 129 + k * 6 + 1, none⟩ = some (.bool true) := by
        have := G2.out.cod.being k 1 (by omega) (by omega)
        rw [← HH.out]; exact this
      have ka := G2.out.cev.actor
      go_wp2
      go_ret
      exact ⟨rfl, G2.out.low⟩
    · obtain ⟨h16, hr, h2, hl⟩ := HF.out hown
      have fo : ((k : Int) == E.actor) = false := by simp [hown]
      have f16 : (E.kind != 16) = true := by simp [h16]
      rw [Int.toNat_natCast] at hr
      have fr : (L.room k == E.room) = true := by simp [hr]
      have HL := hide hl
      clear hown HF HO h16 hr hl
      go_enter Tryd.func3, Tryd.ntmps3
      go_wp2_with (first | (refine wl_land (.tmp 3) rfl rfl _ L rfl P0.out.cod ?_) | (refine wl_event (.tmp 5) rfl rfl _ E rfl P0.out.cev ?_))
      refine (CP.out _).mono ?_
      rintro e w1 ⟨rfl, hb⟩
      have G1 := hide (P0.out.call hb)
      clear hb
      go_wp2_with fail
      refine (ksenses_any _ (HV.out.below G1.out.low (Nat.le_refl _)) (HAi.out.below G1.out.low)).mono ?_
      rintro e w2 ⟨rfl, hb⟩
      have G2 := hide (G1.out.call hb)
      clear hb
      have kh : w2.cell? ⟨w.heap.size, 129 + k * 6 + 1, none⟩ = some (.bool true) := by
        have := G2.out.cod.being k 1 (by omega) (by omega)
        rw [← HH.out]; exact this
      have kr : w2.cell? ⟨w.heap.size, 129 + k * 6 + 3, none⟩ = some (.int .i64 (L.room k)) := G2.out.cod.being k 3 (by omega) (by omega)
      have k0 := G2.out.cev.kind
      have k1 := G2.out.cev.room
      have k2 := G2.out.cev.actor
      go_upto_region 8 with fail
      go_cut [8] (fun c wc => c = .bool (loud E.kind) ∧ wc = w2)
      case first =>
        by_cases e7 : E.kind = 7
        · have t7 : (E.kind == 7) = true := by simp [e7]
          have HE := hide (show loud E.kind = true by simp [loud, e7])
          clear e7
          go_wp2
          go_meet
          exact ⟨by rw [HE.out], rfl⟩
        · have t7 : (E.kind == 7) = false := by simp [e7]
          have HE := hide (show loud E.kind = ((E.kind == 14) || (E.kind == 15)) by rw [Bool.eq_iff_iff]; simp [loud, e7])
          clear e7
          by_cases e14 : E.kind = 14
          · have t14 : (E.kind == 14) = true := by simp [e14]
            clear e14
            go_wp2
            go_meet
            exact ⟨by rw [HE.out]; simp [t14], rfl⟩
          · have t14 : (E.kind == 14) = false := by simp [e14]
            clear e14
            go_wp2
            go_meet
            exact ⟨by rw [HE.out, t14]; simp, rfl⟩
      case rest =>
        obtain ⟨rfl, hw⟩ := hcut
        rw [hw]
        clear hw
        have G2d : PvRel L E w w2.drew := G2.out.drew
        clear kh kr k0 k1 k2 f0 f1 CP
        cases hld : loud E.kind with
        | true =>
          cases hse : seesL L (k : Int) E.actor with
          | true =>
            have HSe := hide hse
            rw [hse] at h2
            replace h2 : (bits .and .i64 n 2 != 0) = false := h2
            clear hse hld
            go_wp2_with fail
            refine wp_region_held (S := fun W => PvRel L E w W) (by kernel_rfl) ?_
            refine take_at (i := 0) (d := some 59) (fuel := 33) (v := ?_) rfl rfl (by kernel_rfl) (by kernel_rfl) (by kernel_rfl) (fun _ _ _ h => h) (Or.inl ⟨by rfl, ?_⟩) G2d ?_
            rotate_left
            · intro W hW
              have c1 : W.cell? ⟨w.heap.size, 129 + k * 6 + 3, none⟩ = some (.int .i64 (L.room k)) := hW.cod.being k 3 (by omega) (by omega)
              have c2 := hW.cev.kind
              have c3 := hW.cev.room
              have c4 := hW.cev.actor
              go_simp
              try with_reducible rfl
            simp only [Act.put, List.setIfInBounds_toArray, List.set]
            refine take_at (i := 1) (d := some 60) (fuel := 32) (v := ?_) rfl rfl (by kernel_rfl) (by kernel_rfl) (by kernel_rfl) (fun _ _ _ h => h) (Or.inl ⟨by rfl, ?_⟩) G2d ?_
            rotate_left
            · intro W hW
              have c1 : W.cell? ⟨w.heap.size, 129 + k * 6 + 3, none⟩ = some (.int .i64 (L.room k)) := hW.cod.being k 3 (by omega) (by omega)
              have c2 := hW.cev.kind
              have c3 := hW.cev.room
              have c4 := hW.cev.actor
              go_simp
              try with_reducible rfl
            simp only [Act.put, List.setIfInBounds_toArray, List.set]
            refine take_at (i := 2) (d := some 61) (fuel := 31) (v := ?_) rfl rfl (by kernel_rfl) (by kernel_rfl) (by kernel_rfl) (fun _ _ _ h => h) (Or.inl ⟨by rfl, ?_⟩) G2d ?_
            rotate_left
            · intro W hW
              have c1 : W.cell? ⟨w.heap.size, 129 + k * 6 + 3, none⟩ = some (.int .i64 (L.room k)) := hW.cod.being k 3 (by omega) (by omega)
              have c2 := hW.cev.kind
              have c3 := hW.cev.room
              have c4 := hW.cev.actor
              go_simp
              try with_reducible rfl
            simp only [Act.put, List.setIfInBounds_toArray, List.set]
            refine take_at (i := 3) (d := some 62) (fuel := 30) (v := ?_) rfl rfl (by kernel_rfl) (by kernel_rfl) (by kernel_rfl) (fun _ _ _ h => h) (Or.inl ⟨by rfl, ?_⟩) G2d ?_
            rotate_left
            · intro W hW
              have c1 : W.cell? ⟨w.heap.size, 129 + k * 6 + 3, none⟩ = some (.int .i64 (L.room k)) := hW.cod.being k 3 (by omega) (by omega)
              have c2 := hW.cev.kind
              have c3 := hW.cev.room
              have c4 := hW.cev.actor
              go_simp
              try with_reducible rfl
            simp only [Act.put, List.setIfInBounds_toArray, List.set]
            refine take_at (i := 4) (d := some 63) (fuel := 29) (v := ?_) rfl rfl (by kernel_rfl) (by kernel_rfl) (by kernel_rfl) (fun _ _ _ h => h) (Or.inl ⟨by rfl, ?_⟩) G2d ?_
            rotate_left
            · intro W hW
              have c1 : W.cell? ⟨w.heap.size, 129 + k * 6 + 3, none⟩ = some (.int .i64 (L.room k)) := hW.cod.being k 3 (by omega) (by omega)
              have c2 := hW.cev.kind
              have c3 := hW.cev.room
              have c4 := hW.cev.actor
              go_simp
              try with_reducible rfl
            simp only [Act.put, List.setIfInBounds_toArray, List.set]
            refine take_at (i := 5) (d := some 64) (fuel := 28) (v := ?_) rfl rfl (by kernel_rfl) (by kernel_rfl) (by kernel_rfl) (fun _ _ _ h => h) (Or.inl ⟨by rfl, ?_⟩) G2d ?_
            rotate_left
            · intro W hW
              have c1 : W.cell? ⟨w.heap.size, 129 + k * 6 + 3, none⟩ = some (.int .i64 (L.room k)) := hW.cod.being k 3 (by omega) (by omega)
              have c2 := hW.cev.kind
              have c3 := hW.cev.room
              have c4 := hW.cev.actor
              go_simp
              try with_reducible rfl
            simp only [Act.put, List.setIfInBounds_toArray, List.set]
            refine take_at (i := 6) (d := some 65) (fuel := 27) (v := ?_) rfl rfl (by kernel_rfl) (by kernel_rfl) (by kernel_rfl) (fun _ _ _ h => h) (Or.inl ⟨by rfl, ?_⟩) G2d ?_
            rotate_left
            · intro W hW
              have c1 : W.cell? ⟨w.heap.size, 129 + k * 6 + 3, none⟩ = some (.int .i64 (L.room k)) := hW.cod.being k 3 (by omega) (by omega)
              have c2 := hW.cev.kind
              have c3 := hW.cev.room
              have c4 := hW.cev.actor
              go_simp
              try with_reducible rfl
            simp only [Act.put, List.setIfInBounds_toArray, List.set]
            refine take_at (i := 7) (d := some 66) (fuel := 26) (v := ?_) rfl rfl (by kernel_rfl) (by kernel_rfl) (by kernel_rfl) (fun _ _ _ h => h) (Or.inl ⟨by rfl, ?_⟩) G2d ?_
            rotate_left
            · intro W hW
              have c1 : W.cell? ⟨w.heap.size, 129 + k * 6 + 3, none⟩ = some (.int .i64 (L.room k)) := hW.cod.being k 3 (by omega) (by omega)
              have c2 := hW.cev.kind
              have c3 := hW.cev.room
              have c4 := hW.cev.actor
              go_simp
              try with_reducible rfl
            simp only [Act.put, List.setIfInBounds_toArray, List.set]
            refine take_at (i := 8) (d := some 67) (fuel := 25) (v := ?_) rfl rfl (by kernel_rfl) (by kernel_rfl) (by kernel_rfl) (fun _ _ _ h => h) (Or.inl ⟨by rfl, ?_⟩) G2d ?_
            rotate_left
            · intro W hW
              have c1 : W.cell? ⟨w.heap.size, 129 + k * 6 + 3, none⟩ = some (.int .i64 (L.room k)) := hW.cod.being k 3 (by omega) (by omega)
              have c2 := hW.cev.kind
              have c3 := hW.cev.room
              have c4 := hW.cev.actor
              go_simp
              try with_reducible rfl
            simp only [Act.put, List.setIfInBounds_toArray, List.set]
            refine take_at (i := 9) (d := some 68) (fuel := 24) (v := ?_) rfl rfl (by kernel_rfl) (by kernel_rfl) (by kernel_rfl) (fun _ _ _ h => h) (Or.inl ⟨by rfl, ?_⟩) G2d ?_
            rotate_left
            · intro W hW
              have c1 : W.cell? ⟨w.heap.size, 129 + k * 6 + 3, none⟩ = some (.int .i64 (L.room k)) := hW.cod.being k 3 (by omega) (by omega)
              have c2 := hW.cev.kind
              have c3 := hW.cev.room
              have c4 := hW.cev.actor
              go_simp
              try with_reducible rfl
            simp only [Act.put, List.setIfInBounds_toArray, List.set]
            refine take_at (i := 10) (d := some 69) (fuel := 23) (v := ?_) rfl rfl (by kernel_rfl) (by kernel_rfl) (by kernel_rfl) (fun _ _ _ h => h) (Or.inl ⟨by rfl, ?_⟩) G2d ?_
            rotate_left
            · intro W hW
              have c1 : W.cell? ⟨w.heap.size, 129 + k * 6 + 3, none⟩ = some (.int .i64 (L.room k)) := hW.cod.being k 3 (by omega) (by omega)
              have c2 := hW.cev.kind
              have c3 := hW.cev.room
              have c4 := hW.cev.actor
              go_simp
              try with_reducible rfl
            simp only [Act.put, List.setIfInBounds_toArray, List.set]
            refine take_at (i := 11) (d := some 70) (fuel := 22) (v := ?_) rfl rfl (by kernel_rfl) (by kernel_rfl) (by kernel_rfl) (fun _ _ _ h => h) (Or.inl ⟨by rfl, ?_⟩) G2d ?_
            rotate_left
            · intro W hW
              have c1 : W.cell? ⟨w.heap.size, 129 + k * 6 + 3, none⟩ = some (.int .i64 (L.room k)) := hW.cod.being k 3 (by omega) (by omega)
              have c2 := hW.cev.kind
              have c3 := hW.cev.room
              have c4 := hW.cev.actor
              go_simp
              try with_reducible rfl
            simp only [Act.put, List.setIfInBounds_toArray, List.set]
            refine take_at (i := 12) (d := some 71) (fuel := 21) (v := ?_) rfl rfl (by kernel_rfl) (by kernel_rfl) (by kernel_rfl) (fun _ _ _ h => h) (Or.inl ⟨by rfl, ?_⟩) G2d ?_
            rotate_left
            · intro W hW
              have c1 : W.cell? ⟨w.heap.size, 129 + k * 6 + 3, none⟩ = some (.int .i64 (L.room k)) := hW.cod.being k 3 (by omega) (by omega)
              have c2 := hW.cev.kind
              have c3 := hW.cev.room
              have c4 := hW.cev.actor
              go_simp
              try with_reducible rfl
            simp only [Act.put, List.setIfInBounds_toArray, List.set]
            refine take_at (i := 13) (d := some 72) (fuel := 20) (v := ?_) rfl rfl (by kernel_rfl) (by kernel_rfl) (by kernel_rfl) (fun _ _ _ h => h) (Or.inl ⟨by rfl, ?_⟩) G2d ?_
            rotate_left
            · intro W hW
              have c1 : W.cell? ⟨w.heap.size, 129 + k * 6 + 3, none⟩ = some (.int .i64 (L.room k)) := hW.cod.being k 3 (by omega) (by omega)
              have c2 := hW.cev.kind
              have c3 := hW.cev.room
              have c4 := hW.cev.actor
              go_simp
              try with_reducible rfl
            simp only [Act.put, List.setIfInBounds_toArray, List.set]
            refine take_at (i := 14) (d := some 73) (fuel := 19) (v := ?_) rfl rfl (by kernel_rfl) (by kernel_rfl) (by kernel_rfl) (fun _ _ _ h => h) (Or.inl ⟨by rfl, ?_⟩) G2d ?_
            rotate_left
            · intro W hW
              have c1 : W.cell? ⟨w.heap.size, 129 + k * 6 + 3, none⟩ = some (.int .i64 (L.room k)) := hW.cod.being k 3 (by omega) (by omega)
              have c2 := hW.cev.kind
              have c3 := hW.cev.room
              have c4 := hW.cev.actor
              go_simp
              try with_reducible rfl
            simp only [Act.put, List.setIfInBounds_toArray, List.set]
            refine take_at (i := 15) (d := some 74) (fuel := 18) (v := ?_) rfl rfl (by kernel_rfl) (by kernel_rfl) (by kernel_rfl) (fun _ _ _ h => h) (Or.inl ⟨by rfl, ?_⟩) G2d ?_
            rotate_left
            · intro W hW
              have c1 : W.cell? ⟨w.heap.size, 129 + k * 6 + 3, none⟩ = some (.int .i64 (L.room k)) := hW.cod.being k 3 (by omega) (by omega)
              have c2 := hW.cev.kind
              have c3 := hW.cev.room
              have c4 := hW.cev.actor
              go_simp
              try with_reducible rfl
            simp only [Act.put, List.setIfInBounds_toArray, List.set]
            refine take_at (i := 16) (d := some 75) (fuel := 17) (v := undef) rfl rfl (by kernel_rfl) (by kernel_rfl) (by kernel_rfl) (fun _ _ _ h => h) (Or.inr ⟨by rfl, rfl⟩) G2d ?_
            simp only [Act.put, List.setIfInBounds_toArray, List.set]
            refine take_at (i := 17) (d := some 76) (fuel := 16) (v := undef) rfl rfl (by kernel_rfl) (by kernel_rfl) (by kernel_rfl) (fun _ _ _ h => h) (Or.inr ⟨by rfl, rfl⟩) G2d ?_
            simp only [Act.put, List.setIfInBounds_toArray, List.set]
            refine take_at (i := 18) (d := some 77) (fuel := 15) (v := undef) rfl rfl (by kernel_rfl) (by kernel_rfl) (by kernel_rfl) (fun _ _ _ h => h) (Or.inr ⟨by rfl, rfl⟩) G2d ?_
            simp only [Act.put, List.setIfInBounds_toArray, List.set]
            refine take_at (i := 19) (d := some 78) (fuel := 14) (v := undef) rfl rfl (by kernel_rfl) (by kernel_rfl) (by kernel_rfl) (fun _ _ _ h => h) (Or.inr ⟨by rfl, rfl⟩) G2d ?_
            simp only [Act.put, List.setIfInBounds_toArray, List.set]
            refine take_at (i := 20) (d := some 79) (fuel := 13) (v := ?_) rfl rfl (by kernel_rfl) (by kernel_rfl) (by kernel_rfl) (fun _ _ _ h => h) (Or.inl ⟨by rfl, ?_⟩) G2d ?_
            rotate_left
            · intro W hW
              have c1 : W.cell? ⟨w.heap.size, 129 + k * 6 + 3, none⟩ = some (.int .i64 (L.room k)) := hW.cod.being k 3 (by omega) (by omega)
              have c2 := hW.cev.kind
              have c3 := hW.cev.room
              have c4 := hW.cev.actor
              go_simp
              try with_reducible rfl
            simp only [Act.put, List.setIfInBounds_toArray, List.set]
            refine take_at (i := 21) (d := some 80) (fuel := 12) (v := ?_) rfl rfl (by kernel_rfl) (by kernel_rfl) (by kernel_rfl) (fun _ _ _ h => h) (Or.inl ⟨by rfl, ?_⟩) G2d ?_
            rotate_left
            · intro W hW
              have c1 : W.cell? ⟨w.heap.size, 129 + k * 6 + 3, none⟩ = some (.int .i64 (L.room k)) := hW.cod.being k 3 (by omega) (by omega)
              have c2 := hW.cev.kind
              have c3 := hW.cev.room
              have c4 := hW.cev.actor
              go_simp
              try with_reducible rfl
            simp only [Act.put, List.setIfInBounds_toArray, List.set]
            refine take_at (i := 22) (d := some 81) (fuel := 11) (v := ?_) rfl rfl (by kernel_rfl) (by kernel_rfl) (by kernel_rfl) (fun _ _ _ h => h) (Or.inl ⟨by rfl, ?_⟩) G2d ?_
            rotate_left
            · intro W hW
              have c1 : W.cell? ⟨w.heap.size, 129 + k * 6 + 3, none⟩ = some (.int .i64 (L.room k)) := hW.cod.being k 3 (by omega) (by omega)
              have c2 := hW.cev.kind
              have c3 := hW.cev.room
              have c4 := hW.cev.actor
              go_simp
              try with_reducible rfl
            simp only [Act.put, List.setIfInBounds_toArray, List.set]
            refine take_at (i := 23) (d := some 82) (fuel := 10) (v := ?_) rfl rfl (by kernel_rfl) (by kernel_rfl) (by kernel_rfl) (fun _ _ _ h => h) (Or.inl ⟨by rfl, ?_⟩) G2d ?_
            rotate_left
            · intro W hW
              have c1 : W.cell? ⟨w.heap.size, 129 + k * 6 + 3, none⟩ = some (.int .i64 (L.room k)) := hW.cod.being k 3 (by omega) (by omega)
              have c2 := hW.cev.kind
              have c3 := hW.cev.room
              have c4 := hW.cev.actor
              go_simp
              try with_reducible rfl
            simp only [Act.put, List.setIfInBounds_toArray, List.set]
            refine take_at (i := 24) (d := some 83) (fuel := 9) (v := ?_) rfl rfl (by kernel_rfl) (by kernel_rfl) (by kernel_rfl) (fun _ _ _ h => h) (Or.inl ⟨by rfl, ?_⟩) G2d ?_
            rotate_left
            · intro W hW
              have c1 : W.cell? ⟨w.heap.size, 129 + k * 6 + 3, none⟩ = some (.int .i64 (L.room k)) := hW.cod.being k 3 (by omega) (by omega)
              have c2 := hW.cev.kind
              have c3 := hW.cev.room
              have c4 := hW.cev.actor
              go_simp
              try with_reducible rfl
            simp only [Act.put, List.setIfInBounds_toArray, List.set]
            refine take_at (i := 25) (d := some 84) (fuel := 8) (v := ?_) rfl rfl (by kernel_rfl) (by kernel_rfl) (by kernel_rfl) (fun _ _ _ h => h) (Or.inl ⟨by rfl, ?_⟩) G2d ?_
            rotate_left
            · intro W hW
              have c1 : W.cell? ⟨w.heap.size, 129 + k * 6 + 3, none⟩ = some (.int .i64 (L.room k)) := hW.cod.being k 3 (by omega) (by omega)
              have c2 := hW.cev.kind
              have c3 := hW.cev.room
              have c4 := hW.cev.actor
              go_simp
              try with_reducible rfl
            simp only [Act.put, List.setIfInBounds_toArray, List.set]
            refine take_at (i := 26) (d := some 85) (fuel := 7) (v := .agg L.cells) rfl rfl (by kernel_rfl) (by kernel_rfl) (by kernel_rfl) (fun _ _ _ h => h) (Or.inl ⟨by rfl, fun W hW => exec_land (.tmp 3) rfl w.heap.size rfl hW.cod⟩) G2d ?_
            simp only [Act.put, List.setIfInBounds_toArray, List.set]
            refine take_at (i := 27) (d := some 86) (fuel := 6) (v := ?_) rfl rfl (by kernel_rfl) (by kernel_rfl) (by kernel_rfl) (fun _ _ _ h => h) (Or.inl ⟨by rfl, ?_⟩) G2d ?_
            rotate_left
            · intro W hW
              have c1 : W.cell? ⟨w.heap.size, 129 + k * 6 + 3, none⟩ = some (.int .i64 (L.room k)) := hW.cod.being k 3 (by omega) (by omega)
              have c2 := hW.cev.kind
              have c3 := hW.cev.room
              have c4 := hW.cev.actor
              go_simp
              try with_reducible rfl
            simp only [Act.put, List.setIfInBounds_toArray, List.set]
            refine take_at (i := 28) (d := some 87) (fuel := 5) (v := ?_) rfl rfl (by kernel_rfl) (by kernel_rfl) (by kernel_rfl) (fun _ _ _ h => h) (Or.inl ⟨by rfl, ?_⟩) G2d ?_
            rotate_left
            · intro W hW
              have c1 : W.cell? ⟨w.heap.size, 129 + k * 6 + 3, none⟩ = some (.int .i64 (L.room k)) := hW.cod.being k 3 (by omega) (by omega)
              have c2 := hW.cev.kind
              have c3 := hW.cev.room
              have c4 := hW.cev.actor
              go_simp
              try with_reducible rfl
            simp only [Act.put, List.setIfInBounds_toArray, List.set]
            refine take_at (i := 29) (d := some 88) (fuel := 4) (v := ?_) rfl rfl (by kernel_rfl) (by kernel_rfl) (by kernel_rfl) (fun _ _ _ h => h) (Or.inl ⟨by rfl, ?_⟩) G2d ?_
            rotate_left
            · intro W hW
              have c1 : W.cell? ⟨w.heap.size, 129 + k * 6 + 3, none⟩ = some (.int .i64 (L.room k)) := hW.cod.being k 3 (by omega) (by omega)
              have c2 := hW.cev.kind
              have c3 := hW.cev.room
              have c4 := hW.cev.actor
              go_simp
              try with_reducible rfl
            simp only [Act.put, List.setIfInBounds_toArray, List.set]
            refine wpAnyH_all (fuel := 3) (rs := [30]) (by kernel_rfl) (by simp) ?_
            intro i hi
            obtain rfl : i = 30 := by simpa using hi
            clear hi
            refine call_at (d := some 89) rfl rfl (by rfl) 8 #[.agg L.cells, .int .i64 (k : Int), .int .i64 E.actor] (by kernel_rfl) ?_
            refine (sees_any L (k : Int) E.actor _).mono ?_
            rintro e w4 ⟨rfl, hb⟩
            have G4 : PvRel L E w w4 := G2d.call hb
            clear hb
            rw [HSe.out]
            refine ⟨_, rfl, G4, ?_⟩
            simp only [Act.put, List.setIfInBounds_toArray, List.set]
            refine take_at (i := 31) (d := some 90) (fuel := 2) (v := ?_) rfl rfl (by kernel_rfl) (by kernel_rfl) (by kernel_rfl) (fun _ _ _ h => h) (Or.inl ⟨by rfl, ?_⟩) G4 ?_
            rotate_left
            · intro W hW
              have c1 : W.cell? ⟨w.heap.size, 129 + k * 6 + 3, none⟩ = some (.int .i64 (L.room k)) := hW.cod.being k 3 (by omega) (by omega)
              have c2 := hW.cev.kind
              have c3 := hW.cev.room
              have c4 := hW.cev.actor
              go_simp
              try with_reducible rfl
            simp only [Act.put, List.setIfInBounds_toArray, List.set]
            refine take_at (i := 32) (d := some 91) (fuel := 1) (v := ?_) rfl rfl (by kernel_rfl) (by kernel_rfl) (by kernel_rfl) (fun _ _ _ h => h) (Or.inl ⟨by rfl, ?_⟩) G4 ?_
            rotate_left
            · intro W hW
              have c1 : W.cell? ⟨w.heap.size, 129 + k * 6 + 3, none⟩ = some (.int .i64 (L.room k)) := hW.cod.being k 3 (by omega) (by omega)
              have c2 := hW.cev.kind
              have c3 := hW.cev.room
              have c4 := hW.cev.actor
              go_simp
              try with_reducible rfl
            simp only [Act.put, List.setIfInBounds_toArray, List.set]
            refine take_at (i := 33) (d := some 6) (fuel := 0) (v := ?_) rfl rfl (by kernel_rfl) (by kernel_rfl) (by kernel_rfl) (fun _ _ _ h => h) (Or.inl ⟨by rfl, ?_⟩) G4 ?_
            rotate_left
            · intro W hW
              have c1 : W.cell? ⟨w.heap.size, 129 + k * 6 + 3, none⟩ = some (.int .i64 (L.room k)) := hW.cod.being k 3 (by omega) (by omega)
              have c2 := hW.cev.kind
              have c3 := hW.cev.room
              have c4 := hW.cev.actor
              go_simp
              try with_reducible rfl
            simp only [Act.put, List.setIfInBounds_toArray, List.set]
            refine wpAnyH_done (by kernel_rfl) ?_ _
            go_wp2
            go_ret
            exact ⟨rfl, G4.low⟩
          | false =>
            have HSe := hide hse
            rw [hse] at h2
            replace h2 : (bits .and .i64 n 2 != 0) = true := h2
            clear hse hld
            go_wp2_with fail
            refine wp_region_held (S := fun W => PvRel L E w W) (by kernel_rfl) ?_
            refine take_at (i := 0) (d := some 59) (fuel := 33) (v := ?_) rfl rfl (by kernel_rfl) (by kernel_rfl) (by kernel_rfl) (fun _ _ _ h => h) (Or.inl ⟨by rfl, ?_⟩) G2d ?_
            rotate_left
            · intro W hW
              have c1 : W.cell? ⟨w.heap.size, 129 + k * 6 + 3, none⟩ = some (.int .i64 (L.room k)) := hW.cod.being k 3 (by omega) (by omega)
              have c2 := hW.cev.kind
              have c3 := hW.cev.room
              have c4 := hW.cev.actor
              go_simp
              try with_reducible rfl
            simp only [Act.put, List.setIfInBounds_toArray, List.set]
            refine take_at (i := 1) (d := some 60) (fuel := 32) (v := ?_) rfl rfl (by kernel_rfl) (by kernel_rfl) (by kernel_rfl) (fun _ _ _ h => h) (Or.inl ⟨by rfl, ?_⟩) G2d ?_
            rotate_left
            · intro W hW
              have c1 : W.cell? ⟨w.heap.size, 129 + k * 6 + 3, none⟩ = some (.int .i64 (L.room k)) := hW.cod.being k 3 (by omega) (by omega)
              have c2 := hW.cev.kind
              have c3 := hW.cev.room
              have c4 := hW.cev.actor
              go_simp
              try with_reducible rfl
            simp only [Act.put, List.setIfInBounds_toArray, List.set]
            refine take_at (i := 2) (d := some 61) (fuel := 31) (v := ?_) rfl rfl (by kernel_rfl) (by kernel_rfl) (by kernel_rfl) (fun _ _ _ h => h) (Or.inl ⟨by rfl, ?_⟩) G2d ?_
            rotate_left
            · intro W hW
              have c1 : W.cell? ⟨w.heap.size, 129 + k * 6 + 3, none⟩ = some (.int .i64 (L.room k)) := hW.cod.being k 3 (by omega) (by omega)
              have c2 := hW.cev.kind
              have c3 := hW.cev.room
              have c4 := hW.cev.actor
              go_simp
              try with_reducible rfl
            simp only [Act.put, List.setIfInBounds_toArray, List.set]
            refine take_at (i := 3) (d := some 62) (fuel := 30) (v := ?_) rfl rfl (by kernel_rfl) (by kernel_rfl) (by kernel_rfl) (fun _ _ _ h => h) (Or.inl ⟨by rfl, ?_⟩) G2d ?_
            rotate_left
            · intro W hW
              have c1 : W.cell? ⟨w.heap.size, 129 + k * 6 + 3, none⟩ = some (.int .i64 (L.room k)) := hW.cod.being k 3 (by omega) (by omega)
              have c2 := hW.cev.kind
              have c3 := hW.cev.room
              have c4 := hW.cev.actor
              go_simp
              try with_reducible rfl
            simp only [Act.put, List.setIfInBounds_toArray, List.set]
            refine take_at (i := 4) (d := some 63) (fuel := 29) (v := ?_) rfl rfl (by kernel_rfl) (by kernel_rfl) (by kernel_rfl) (fun _ _ _ h => h) (Or.inl ⟨by rfl, ?_⟩) G2d ?_
            rotate_left
            · intro W hW
              have c1 : W.cell? ⟨w.heap.size, 129 + k * 6 + 3, none⟩ = some (.int .i64 (L.room k)) := hW.cod.being k 3 (by omega) (by omega)
              have c2 := hW.cev.kind
              have c3 := hW.cev.room
              have c4 := hW.cev.actor
              go_simp
              try with_reducible rfl
            simp only [Act.put, List.setIfInBounds_toArray, List.set]
            refine take_at (i := 5) (d := some 64) (fuel := 28) (v := ?_) rfl rfl (by kernel_rfl) (by kernel_rfl) (by kernel_rfl) (fun _ _ _ h => h) (Or.inl ⟨by rfl, ?_⟩) G2d ?_
            rotate_left
            · intro W hW
              have c1 : W.cell? ⟨w.heap.size, 129 + k * 6 + 3, none⟩ = some (.int .i64 (L.room k)) := hW.cod.being k 3 (by omega) (by omega)
              have c2 := hW.cev.kind
              have c3 := hW.cev.room
              have c4 := hW.cev.actor
              go_simp
              try with_reducible rfl
            simp only [Act.put, List.setIfInBounds_toArray, List.set]
            refine take_at (i := 6) (d := some 65) (fuel := 27) (v := ?_) rfl rfl (by kernel_rfl) (by kernel_rfl) (by kernel_rfl) (fun _ _ _ h => h) (Or.inl ⟨by rfl, ?_⟩) G2d ?_
            rotate_left
            · intro W hW
              have c1 : W.cell? ⟨w.heap.size, 129 + k * 6 + 3, none⟩ = some (.int .i64 (L.room k)) := hW.cod.being k 3 (by omega) (by omega)
              have c2 := hW.cev.kind
              have c3 := hW.cev.room
              have c4 := hW.cev.actor
              go_simp
              try with_reducible rfl
            simp only [Act.put, List.setIfInBounds_toArray, List.set]
            refine take_at (i := 7) (d := some 66) (fuel := 26) (v := ?_) rfl rfl (by kernel_rfl) (by kernel_rfl) (by kernel_rfl) (fun _ _ _ h => h) (Or.inl ⟨by rfl, ?_⟩) G2d ?_
            rotate_left
            · intro W hW
              have c1 : W.cell? ⟨w.heap.size, 129 + k * 6 + 3, none⟩ = some (.int .i64 (L.room k)) := hW.cod.being k 3 (by omega) (by omega)
              have c2 := hW.cev.kind
              have c3 := hW.cev.room
              have c4 := hW.cev.actor
              go_simp
              try with_reducible rfl
            simp only [Act.put, List.setIfInBounds_toArray, List.set]
            refine take_at (i := 8) (d := some 67) (fuel := 25) (v := ?_) rfl rfl (by kernel_rfl) (by kernel_rfl) (by kernel_rfl) (fun _ _ _ h => h) (Or.inl ⟨by rfl, ?_⟩) G2d ?_
            rotate_left
            · intro W hW
              have c1 : W.cell? ⟨w.heap.size, 129 + k * 6 + 3, none⟩ = some (.int .i64 (L.room k)) := hW.cod.being k 3 (by omega) (by omega)
              have c2 := hW.cev.kind
              have c3 := hW.cev.room
              have c4 := hW.cev.actor
              go_simp
              try with_reducible rfl
            simp only [Act.put, List.setIfInBounds_toArray, List.set]
            refine take_at (i := 9) (d := some 68) (fuel := 24) (v := ?_) rfl rfl (by kernel_rfl) (by kernel_rfl) (by kernel_rfl) (fun _ _ _ h => h) (Or.inl ⟨by rfl, ?_⟩) G2d ?_
            rotate_left
            · intro W hW
              have c1 : W.cell? ⟨w.heap.size, 129 + k * 6 + 3, none⟩ = some (.int .i64 (L.room k)) := hW.cod.being k 3 (by omega) (by omega)
              have c2 := hW.cev.kind
              have c3 := hW.cev.room
              have c4 := hW.cev.actor
              go_simp
              try with_reducible rfl
            simp only [Act.put, List.setIfInBounds_toArray, List.set]
            refine take_at (i := 10) (d := some 69) (fuel := 23) (v := ?_) rfl rfl (by kernel_rfl) (by kernel_rfl) (by kernel_rfl) (fun _ _ _ h => h) (Or.inl ⟨by rfl, ?_⟩) G2d ?_
            rotate_left
            · intro W hW
              have c1 : W.cell? ⟨w.heap.size, 129 + k * 6 + 3, none⟩ = some (.int .i64 (L.room k)) := hW.cod.being k 3 (by omega) (by omega)
              have c2 := hW.cev.kind
              have c3 := hW.cev.room
              have c4 := hW.cev.actor
              go_simp
              try with_reducible rfl
            simp only [Act.put, List.setIfInBounds_toArray, List.set]
            refine take_at (i := 11) (d := some 70) (fuel := 22) (v := ?_) rfl rfl (by kernel_rfl) (by kernel_rfl) (by kernel_rfl) (fun _ _ _ h => h) (Or.inl ⟨by rfl, ?_⟩) G2d ?_
            rotate_left
            · intro W hW
              have c1 : W.cell? ⟨w.heap.size, 129 + k * 6 + 3, none⟩ = some (.int .i64 (L.room k)) := hW.cod.being k 3 (by omega) (by omega)
              have c2 := hW.cev.kind
              have c3 := hW.cev.room
              have c4 := hW.cev.actor
              go_simp
              try with_reducible rfl
            simp only [Act.put, List.setIfInBounds_toArray, List.set]
            refine take_at (i := 12) (d := some 71) (fuel := 21) (v := ?_) rfl rfl (by kernel_rfl) (by kernel_rfl) (by kernel_rfl) (fun _ _ _ h => h) (Or.inl ⟨by rfl, ?_⟩) G2d ?_
            rotate_left
            · intro W hW
              have c1 : W.cell? ⟨w.heap.size, 129 + k * 6 + 3, none⟩ = some (.int .i64 (L.room k)) := hW.cod.being k 3 (by omega) (by omega)
              have c2 := hW.cev.kind
              have c3 := hW.cev.room
              have c4 := hW.cev.actor
              go_simp
              try with_reducible rfl
            simp only [Act.put, List.setIfInBounds_toArray, List.set]
            refine take_at (i := 13) (d := some 72) (fuel := 20) (v := ?_) rfl rfl (by kernel_rfl) (by kernel_rfl) (by kernel_rfl) (fun _ _ _ h => h) (Or.inl ⟨by rfl, ?_⟩) G2d ?_
            rotate_left
            · intro W hW
              have c1 : W.cell? ⟨w.heap.size, 129 + k * 6 + 3, none⟩ = some (.int .i64 (L.room k)) := hW.cod.being k 3 (by omega) (by omega)
              have c2 := hW.cev.kind
              have c3 := hW.cev.room
              have c4 := hW.cev.actor
              go_simp
              try with_reducible rfl
            simp only [Act.put, List.setIfInBounds_toArray, List.set]
            refine take_at (i := 14) (d := some 73) (fuel := 19) (v := ?_) rfl rfl (by kernel_rfl) (by kernel_rfl) (by kernel_rfl) (fun _ _ _ h => h) (Or.inl ⟨by rfl, ?_⟩) G2d ?_
            rotate_left
            · intro W hW
              have c1 : W.cell? ⟨w.heap.size, 129 + k * 6 + 3, none⟩ = some (.int .i64 (L.room k)) := hW.cod.being k 3 (by omega) (by omega)
              have c2 := hW.cev.kind
              have c3 := hW.cev.room
              have c4 := hW.cev.actor
              go_simp
              try with_reducible rfl
            simp only [Act.put, List.setIfInBounds_toArray, List.set]
            refine take_at (i := 15) (d := some 74) (fuel := 18) (v := ?_) rfl rfl (by kernel_rfl) (by kernel_rfl) (by kernel_rfl) (fun _ _ _ h => h) (Or.inl ⟨by rfl, ?_⟩) G2d ?_
            rotate_left
            · intro W hW
              have c1 : W.cell? ⟨w.heap.size, 129 + k * 6 + 3, none⟩ = some (.int .i64 (L.room k)) := hW.cod.being k 3 (by omega) (by omega)
              have c2 := hW.cev.kind
              have c3 := hW.cev.room
              have c4 := hW.cev.actor
              go_simp
              try with_reducible rfl
            simp only [Act.put, List.setIfInBounds_toArray, List.set]
            refine take_at (i := 16) (d := some 75) (fuel := 17) (v := undef) rfl rfl (by kernel_rfl) (by kernel_rfl) (by kernel_rfl) (fun _ _ _ h => h) (Or.inr ⟨by rfl, rfl⟩) G2d ?_
            simp only [Act.put, List.setIfInBounds_toArray, List.set]
            refine take_at (i := 17) (d := some 76) (fuel := 16) (v := undef) rfl rfl (by kernel_rfl) (by kernel_rfl) (by kernel_rfl) (fun _ _ _ h => h) (Or.inr ⟨by rfl, rfl⟩) G2d ?_
            simp only [Act.put, List.setIfInBounds_toArray, List.set]
            refine take_at (i := 18) (d := some 77) (fuel := 15) (v := undef) rfl rfl (by kernel_rfl) (by kernel_rfl) (by kernel_rfl) (fun _ _ _ h => h) (Or.inr ⟨by rfl, rfl⟩) G2d ?_
            simp only [Act.put, List.setIfInBounds_toArray, List.set]
            refine take_at (i := 19) (d := some 78) (fuel := 14) (v := undef) rfl rfl (by kernel_rfl) (by kernel_rfl) (by kernel_rfl) (fun _ _ _ h => h) (Or.inr ⟨by rfl, rfl⟩) G2d ?_
            simp only [Act.put, List.setIfInBounds_toArray, List.set]
            refine take_at (i := 20) (d := some 79) (fuel := 13) (v := ?_) rfl rfl (by kernel_rfl) (by kernel_rfl) (by kernel_rfl) (fun _ _ _ h => h) (Or.inl ⟨by rfl, ?_⟩) G2d ?_
            rotate_left
            · intro W hW
              have c1 : W.cell? ⟨w.heap.size, 129 + k * 6 + 3, none⟩ = some (.int .i64 (L.room k)) := hW.cod.being k 3 (by omega) (by omega)
              have c2 := hW.cev.kind
              have c3 := hW.cev.room
              have c4 := hW.cev.actor
              go_simp
              try with_reducible rfl
            simp only [Act.put, List.setIfInBounds_toArray, List.set]
            refine take_at (i := 21) (d := some 80) (fuel := 12) (v := ?_) rfl rfl (by kernel_rfl) (by kernel_rfl) (by kernel_rfl) (fun _ _ _ h => h) (Or.inl ⟨by rfl, ?_⟩) G2d ?_
            rotate_left
            · intro W hW
              have c1 : W.cell? ⟨w.heap.size, 129 + k * 6 + 3, none⟩ = some (.int .i64 (L.room k)) := hW.cod.being k 3 (by omega) (by omega)
              have c2 := hW.cev.kind
              have c3 := hW.cev.room
              have c4 := hW.cev.actor
              go_simp
              try with_reducible rfl
            simp only [Act.put, List.setIfInBounds_toArray, List.set]
            refine take_at (i := 22) (d := some 81) (fuel := 11) (v := ?_) rfl rfl (by kernel_rfl) (by kernel_rfl) (by kernel_rfl) (fun _ _ _ h => h) (Or.inl ⟨by rfl, ?_⟩) G2d ?_
            rotate_left
            · intro W hW
              have c1 : W.cell? ⟨w.heap.size, 129 + k * 6 + 3, none⟩ = some (.int .i64 (L.room k)) := hW.cod.being k 3 (by omega) (by omega)
              have c2 := hW.cev.kind
              have c3 := hW.cev.room
              have c4 := hW.cev.actor
              go_simp
              try with_reducible rfl
            simp only [Act.put, List.setIfInBounds_toArray, List.set]
            refine take_at (i := 23) (d := some 82) (fuel := 10) (v := ?_) rfl rfl (by kernel_rfl) (by kernel_rfl) (by kernel_rfl) (fun _ _ _ h => h) (Or.inl ⟨by rfl, ?_⟩) G2d ?_
            rotate_left
            · intro W hW
              have c1 : W.cell? ⟨w.heap.size, 129 + k * 6 + 3, none⟩ = some (.int .i64 (L.room k)) := hW.cod.being k 3 (by omega) (by omega)
              have c2 := hW.cev.kind
              have c3 := hW.cev.room
              have c4 := hW.cev.actor
              go_simp
              try with_reducible rfl
            simp only [Act.put, List.setIfInBounds_toArray, List.set]
            refine take_at (i := 24) (d := some 83) (fuel := 9) (v := ?_) rfl rfl (by kernel_rfl) (by kernel_rfl) (by kernel_rfl) (fun _ _ _ h => h) (Or.inl ⟨by rfl, ?_⟩) G2d ?_
            rotate_left
            · intro W hW
              have c1 : W.cell? ⟨w.heap.size, 129 + k * 6 + 3, none⟩ = some (.int .i64 (L.room k)) := hW.cod.being k 3 (by omega) (by omega)
              have c2 := hW.cev.kind
              have c3 := hW.cev.room
              have c4 := hW.cev.actor
              go_simp
              try with_reducible rfl
            simp only [Act.put, List.setIfInBounds_toArray, List.set]
            refine take_at (i := 25) (d := some 84) (fuel := 8) (v := ?_) rfl rfl (by kernel_rfl) (by kernel_rfl) (by kernel_rfl) (fun _ _ _ h => h) (Or.inl ⟨by rfl, ?_⟩) G2d ?_
            rotate_left
            · intro W hW
              have c1 : W.cell? ⟨w.heap.size, 129 + k * 6 + 3, none⟩ = some (.int .i64 (L.room k)) := hW.cod.being k 3 (by omega) (by omega)
              have c2 := hW.cev.kind
              have c3 := hW.cev.room
              have c4 := hW.cev.actor
              go_simp
              try with_reducible rfl
            simp only [Act.put, List.setIfInBounds_toArray, List.set]
            refine take_at (i := 26) (d := some 85) (fuel := 7) (v := .agg L.cells) rfl rfl (by kernel_rfl) (by kernel_rfl) (by kernel_rfl) (fun _ _ _ h => h) (Or.inl ⟨by rfl, fun W hW => exec_land (.tmp 3) rfl w.heap.size rfl hW.cod⟩) G2d ?_
            simp only [Act.put, List.setIfInBounds_toArray, List.set]
            refine take_at (i := 27) (d := some 86) (fuel := 6) (v := ?_) rfl rfl (by kernel_rfl) (by kernel_rfl) (by kernel_rfl) (fun _ _ _ h => h) (Or.inl ⟨by rfl, ?_⟩) G2d ?_
            rotate_left
            · intro W hW
              have c1 : W.cell? ⟨w.heap.size, 129 + k * 6 + 3, none⟩ = some (.int .i64 (L.room k)) := hW.cod.being k 3 (by omega) (by omega)
              have c2 := hW.cev.kind
              have c3 := hW.cev.room
              have c4 := hW.cev.actor
              go_simp
              try with_reducible rfl
            simp only [Act.put, List.setIfInBounds_toArray, List.set]
            refine take_at (i := 28) (d := some 87) (fuel := 5) (v := ?_) rfl rfl (by kernel_rfl) (by kernel_rfl) (by kernel_rfl) (fun _ _ _ h => h) (Or.inl ⟨by rfl, ?_⟩) G2d ?_
            rotate_left
            · intro W hW
              have c1 : W.cell? ⟨w.heap.size, 129 + k * 6 + 3, none⟩ = some (.int .i64 (L.room k)) := hW.cod.being k 3 (by omega) (by omega)
              have c2 := hW.cev.kind
              have c3 := hW.cev.room
              have c4 := hW.cev.actor
              go_simp
              try with_reducible rfl
            simp only [Act.put, List.setIfInBounds_toArray, List.set]
            refine take_at (i := 29) (d := some 88) (fuel := 4) (v := ?_) rfl rfl (by kernel_rfl) (by kernel_rfl) (by kernel_rfl) (fun _ _ _ h => h) (Or.inl ⟨by rfl, ?_⟩) G2d ?_
            rotate_left
            · intro W hW
              have c1 : W.cell? ⟨w.heap.size, 129 + k * 6 + 3, none⟩ = some (.int .i64 (L.room k)) := hW.cod.being k 3 (by omega) (by omega)
              have c2 := hW.cev.kind
              have c3 := hW.cev.room
              have c4 := hW.cev.actor
              go_simp
              try with_reducible rfl
            simp only [Act.put, List.setIfInBounds_toArray, List.set]
            refine wpAnyH_all (fuel := 3) (rs := [30]) (by kernel_rfl) (by simp) ?_
            intro i hi
            obtain rfl : i = 30 := by simpa using hi
            clear hi
            refine call_at (d := some 89) rfl rfl (by rfl) 8 #[.agg L.cells, .int .i64 (k : Int), .int .i64 E.actor] (by kernel_rfl) ?_
            refine (sees_any L (k : Int) E.actor _).mono ?_
            rintro e w4 ⟨rfl, hb⟩
            have G4 : PvRel L E w w4 := G2d.call hb
            clear hb
            rw [HSe.out]
            refine ⟨_, rfl, G4, ?_⟩
            simp only [Act.put, List.setIfInBounds_toArray, List.set]
            refine take_at (i := 31) (d := some 90) (fuel := 2) (v := ?_) rfl rfl (by kernel_rfl) (by kernel_rfl) (by kernel_rfl) (fun _ _ _ h => h) (Or.inl ⟨by rfl, ?_⟩) G4 ?_
            rotate_left
            · intro W hW
              have c1 : W.cell? ⟨w.heap.size, 129 + k * 6 + 3, none⟩ = some (.int .i64 (L.room k)) := hW.cod.being k 3 (by omega) (by omega)
              have c2 := hW.cev.kind
              have c3 := hW.cev.room
              have c4 := hW.cev.actor
              go_simp
              try with_reducible rfl
            simp only [Act.put, List.setIfInBounds_toArray, List.set]
            refine take_at (i := 32) (d := some 91) (fuel := 1) (v := ?_) rfl rfl (by kernel_rfl) (by kernel_rfl) (by kernel_rfl) (fun _ _ _ h => h) (Or.inl ⟨by rfl, ?_⟩) G4 ?_
            rotate_left
            · intro W hW
              have c1 : W.cell? ⟨w.heap.size, 129 + k * 6 + 3, none⟩ = some (.int .i64 (L.room k)) := hW.cod.being k 3 (by omega) (by omega)
              have c2 := hW.cev.kind
              have c3 := hW.cev.room
              have c4 := hW.cev.actor
              go_simp
              try with_reducible rfl
            simp only [Act.put, List.setIfInBounds_toArray, List.set]
            refine take_at (i := 33) (d := some 6) (fuel := 0) (v := ?_) rfl rfl (by kernel_rfl) (by kernel_rfl) (by kernel_rfl) (fun _ _ _ h => h) (Or.inl ⟨by rfl, ?_⟩) G4 ?_
            rotate_left
            · intro W hW
              have c1 : W.cell? ⟨w.heap.size, 129 + k * 6 + 3, none⟩ = some (.int .i64 (L.room k)) := hW.cod.being k 3 (by omega) (by omega)
              have c2 := hW.cev.kind
              have c3 := hW.cev.room
              have c4 := hW.cev.actor
              go_simp
              try with_reducible rfl
            simp only [Act.put, List.setIfInBounds_toArray, List.set]
            refine wpAnyH_done (by kernel_rfl) ?_ _
            go_wp2
            go_ret
            exact ⟨rfl, G4.low⟩
        | false =>
          have HSe := hide (HL.out hld).1
          have HBr := hide (HL.out hld).2
          rw [HSe.out] at h2
          replace h2 : (bits .and .i64 n 2 != 0) = false := h2
          clear hld
          go_wp2_with fail
          refine wp_region_held (S := fun W => PvRel L E w W) (by kernel_rfl) ?_
          refine take_at (i := 0) (d := some 59) (fuel := 33) (v := ?_) rfl rfl (by kernel_rfl) (by kernel_rfl) (by kernel_rfl) (fun _ _ _ h => h) (Or.inl ⟨by rfl, ?_⟩) G2d ?_
          rotate_left
          · intro W hW
            have c1 : W.cell? ⟨w.heap.size, 129 + k * 6 + 3, none⟩ = some (.int .i64 (L.room k)) := hW.cod.being k 3 (by omega) (by omega)
            have c2 := hW.cev.kind
            have c3 := hW.cev.room
            have c4 := hW.cev.actor
            go_simp
            try with_reducible rfl
          simp only [Act.put, List.setIfInBounds_toArray, List.set]
          refine take_at (i := 1) (d := some 60) (fuel := 32) (v := ?_) rfl rfl (by kernel_rfl) (by kernel_rfl) (by kernel_rfl) (fun _ _ _ h => h) (Or.inl ⟨by rfl, ?_⟩) G2d ?_
          rotate_left
          · intro W hW
            have c1 : W.cell? ⟨w.heap.size, 129 + k * 6 + 3, none⟩ = some (.int .i64 (L.room k)) := hW.cod.being k 3 (by omega) (by omega)
            have c2 := hW.cev.kind
            have c3 := hW.cev.room
            have c4 := hW.cev.actor
            go_simp
            try with_reducible rfl
          simp only [Act.put, List.setIfInBounds_toArray, List.set]
          refine take_at (i := 2) (d := some 61) (fuel := 31) (v := ?_) rfl rfl (by kernel_rfl) (by kernel_rfl) (by kernel_rfl) (fun _ _ _ h => h) (Or.inl ⟨by rfl, ?_⟩) G2d ?_
          rotate_left
          · intro W hW
            have c1 : W.cell? ⟨w.heap.size, 129 + k * 6 + 3, none⟩ = some (.int .i64 (L.room k)) := hW.cod.being k 3 (by omega) (by omega)
            have c2 := hW.cev.kind
            have c3 := hW.cev.room
            have c4 := hW.cev.actor
            go_simp
            try with_reducible rfl
          simp only [Act.put, List.setIfInBounds_toArray, List.set]
          refine take_at (i := 3) (d := some 62) (fuel := 30) (v := ?_) rfl rfl (by kernel_rfl) (by kernel_rfl) (by kernel_rfl) (fun _ _ _ h => h) (Or.inl ⟨by rfl, ?_⟩) G2d ?_
          rotate_left
          · intro W hW
            have c1 : W.cell? ⟨w.heap.size, 129 + k * 6 + 3, none⟩ = some (.int .i64 (L.room k)) := hW.cod.being k 3 (by omega) (by omega)
            have c2 := hW.cev.kind
            have c3 := hW.cev.room
            have c4 := hW.cev.actor
            go_simp
            try with_reducible rfl
          simp only [Act.put, List.setIfInBounds_toArray, List.set]
          refine take_at (i := 4) (d := some 63) (fuel := 29) (v := ?_) rfl rfl (by kernel_rfl) (by kernel_rfl) (by kernel_rfl) (fun _ _ _ h => h) (Or.inl ⟨by rfl, ?_⟩) G2d ?_
          rotate_left
          · intro W hW
            have c1 : W.cell? ⟨w.heap.size, 129 + k * 6 + 3, none⟩ = some (.int .i64 (L.room k)) := hW.cod.being k 3 (by omega) (by omega)
            have c2 := hW.cev.kind
            have c3 := hW.cev.room
            have c4 := hW.cev.actor
            go_simp
            try with_reducible rfl
          simp only [Act.put, List.setIfInBounds_toArray, List.set]
          refine take_at (i := 5) (d := some 64) (fuel := 28) (v := ?_) rfl rfl (by kernel_rfl) (by kernel_rfl) (by kernel_rfl) (fun _ _ _ h => h) (Or.inl ⟨by rfl, ?_⟩) G2d ?_
          rotate_left
          · intro W hW
            have c1 : W.cell? ⟨w.heap.size, 129 + k * 6 + 3, none⟩ = some (.int .i64 (L.room k)) := hW.cod.being k 3 (by omega) (by omega)
            have c2 := hW.cev.kind
            have c3 := hW.cev.room
            have c4 := hW.cev.actor
            go_simp
            try with_reducible rfl
          simp only [Act.put, List.setIfInBounds_toArray, List.set]
          refine take_at (i := 6) (d := some 65) (fuel := 27) (v := ?_) rfl rfl (by kernel_rfl) (by kernel_rfl) (by kernel_rfl) (fun _ _ _ h => h) (Or.inl ⟨by rfl, ?_⟩) G2d ?_
          rotate_left
          · intro W hW
            have c1 : W.cell? ⟨w.heap.size, 129 + k * 6 + 3, none⟩ = some (.int .i64 (L.room k)) := hW.cod.being k 3 (by omega) (by omega)
            have c2 := hW.cev.kind
            have c3 := hW.cev.room
            have c4 := hW.cev.actor
            go_simp
            try with_reducible rfl
          simp only [Act.put, List.setIfInBounds_toArray, List.set]
          refine take_at (i := 7) (d := some 66) (fuel := 26) (v := ?_) rfl rfl (by kernel_rfl) (by kernel_rfl) (by kernel_rfl) (fun _ _ _ h => h) (Or.inl ⟨by rfl, ?_⟩) G2d ?_
          rotate_left
          · intro W hW
            have c1 : W.cell? ⟨w.heap.size, 129 + k * 6 + 3, none⟩ = some (.int .i64 (L.room k)) := hW.cod.being k 3 (by omega) (by omega)
            have c2 := hW.cev.kind
            have c3 := hW.cev.room
            have c4 := hW.cev.actor
            go_simp
            try with_reducible rfl
          simp only [Act.put, List.setIfInBounds_toArray, List.set]
          refine take_at (i := 8) (d := some 67) (fuel := 25) (v := ?_) rfl rfl (by kernel_rfl) (by kernel_rfl) (by kernel_rfl) (fun _ _ _ h => h) (Or.inl ⟨by rfl, ?_⟩) G2d ?_
          rotate_left
          · intro W hW
            have c1 : W.cell? ⟨w.heap.size, 129 + k * 6 + 3, none⟩ = some (.int .i64 (L.room k)) := hW.cod.being k 3 (by omega) (by omega)
            have c2 := hW.cev.kind
            have c3 := hW.cev.room
            have c4 := hW.cev.actor
            go_simp
            try with_reducible rfl
          simp only [Act.put, List.setIfInBounds_toArray, List.set]
          refine take_at (i := 9) (d := some 68) (fuel := 24) (v := ?_) rfl rfl (by kernel_rfl) (by kernel_rfl) (by kernel_rfl) (fun _ _ _ h => h) (Or.inl ⟨by rfl, ?_⟩) G2d ?_
          rotate_left
          · intro W hW
            have c1 : W.cell? ⟨w.heap.size, 129 + k * 6 + 3, none⟩ = some (.int .i64 (L.room k)) := hW.cod.being k 3 (by omega) (by omega)
            have c2 := hW.cev.kind
            have c3 := hW.cev.room
            have c4 := hW.cev.actor
            go_simp
            try with_reducible rfl
          simp only [Act.put, List.setIfInBounds_toArray, List.set]
          refine take_at (i := 10) (d := some 69) (fuel := 23) (v := ?_) rfl rfl (by kernel_rfl) (by kernel_rfl) (by kernel_rfl) (fun _ _ _ h => h) (Or.inl ⟨by rfl, ?_⟩) G2d ?_
          rotate_left
          · intro W hW
            have c1 : W.cell? ⟨w.heap.size, 129 + k * 6 + 3, none⟩ = some (.int .i64 (L.room k)) := hW.cod.being k 3 (by omega) (by omega)
            have c2 := hW.cev.kind
            have c3 := hW.cev.room
            have c4 := hW.cev.actor
            go_simp
            try with_reducible rfl
          simp only [Act.put, List.setIfInBounds_toArray, List.set]
          refine take_at (i := 11) (d := some 70) (fuel := 22) (v := ?_) rfl rfl (by kernel_rfl) (by kernel_rfl) (by kernel_rfl) (fun _ _ _ h => h) (Or.inl ⟨by rfl, ?_⟩) G2d ?_
          rotate_left
          · intro W hW
            have c1 : W.cell? ⟨w.heap.size, 129 + k * 6 + 3, none⟩ = some (.int .i64 (L.room k)) := hW.cod.being k 3 (by omega) (by omega)
            have c2 := hW.cev.kind
            have c3 := hW.cev.room
            have c4 := hW.cev.actor
            go_simp
            try with_reducible rfl
          simp only [Act.put, List.setIfInBounds_toArray, List.set]
          refine take_at (i := 12) (d := some 71) (fuel := 21) (v := ?_) rfl rfl (by kernel_rfl) (by kernel_rfl) (by kernel_rfl) (fun _ _ _ h => h) (Or.inl ⟨by rfl, ?_⟩) G2d ?_
          rotate_left
          · intro W hW
            have c1 : W.cell? ⟨w.heap.size, 129 + k * 6 + 3, none⟩ = some (.int .i64 (L.room k)) := hW.cod.being k 3 (by omega) (by omega)
            have c2 := hW.cev.kind
            have c3 := hW.cev.room
            have c4 := hW.cev.actor
            go_simp
            try with_reducible rfl
          simp only [Act.put, List.setIfInBounds_toArray, List.set]
          refine take_at (i := 13) (d := some 72) (fuel := 20) (v := ?_) rfl rfl (by kernel_rfl) (by kernel_rfl) (by kernel_rfl) (fun _ _ _ h => h) (Or.inl ⟨by rfl, ?_⟩) G2d ?_
          rotate_left
          · intro W hW
            have c1 : W.cell? ⟨w.heap.size, 129 + k * 6 + 3, none⟩ = some (.int .i64 (L.room k)) := hW.cod.being k 3 (by omega) (by omega)
            have c2 := hW.cev.kind
            have c3 := hW.cev.room
            have c4 := hW.cev.actor
            go_simp
            try with_reducible rfl
          simp only [Act.put, List.setIfInBounds_toArray, List.set]
          refine take_at (i := 14) (d := some 73) (fuel := 19) (v := ?_) rfl rfl (by kernel_rfl) (by kernel_rfl) (by kernel_rfl) (fun _ _ _ h => h) (Or.inl ⟨by rfl, ?_⟩) G2d ?_
          rotate_left
          · intro W hW
            have c1 : W.cell? ⟨w.heap.size, 129 + k * 6 + 3, none⟩ = some (.int .i64 (L.room k)) := hW.cod.being k 3 (by omega) (by omega)
            have c2 := hW.cev.kind
            have c3 := hW.cev.room
            have c4 := hW.cev.actor
            go_simp
            try with_reducible rfl
          simp only [Act.put, List.setIfInBounds_toArray, List.set]
          refine take_at (i := 15) (d := some 74) (fuel := 18) (v := ?_) rfl rfl (by kernel_rfl) (by kernel_rfl) (by kernel_rfl) (fun _ _ _ h => h) (Or.inl ⟨by rfl, ?_⟩) G2d ?_
          rotate_left
          · intro W hW
            have c1 : W.cell? ⟨w.heap.size, 129 + k * 6 + 3, none⟩ = some (.int .i64 (L.room k)) := hW.cod.being k 3 (by omega) (by omega)
            have c2 := hW.cev.kind
            have c3 := hW.cev.room
            have c4 := hW.cev.actor
            go_simp
            try with_reducible rfl
          simp only [Act.put, List.setIfInBounds_toArray, List.set]
          refine take_at (i := 16) (d := some 75) (fuel := 17) (v := .agg L.cells) rfl rfl (by kernel_rfl) (by kernel_rfl) (by kernel_rfl) (fun _ _ _ h => h) (Or.inl ⟨by rfl, fun W hW => exec_land (.tmp 3) rfl w.heap.size rfl hW.cod⟩) G2d ?_
          simp only [Act.put, List.setIfInBounds_toArray, List.set]
          refine take_at (i := 17) (d := some 76) (fuel := 16) (v := ?_) rfl rfl (by kernel_rfl) (by kernel_rfl) (by kernel_rfl) (fun _ _ _ h => h) (Or.inl ⟨by rfl, ?_⟩) G2d ?_
          rotate_left
          · intro W hW
            have c1 : W.cell? ⟨w.heap.size, 129 + k * 6 + 3, none⟩ = some (.int .i64 (L.room k)) := hW.cod.being k 3 (by omega) (by omega)
            have c2 := hW.cev.kind
            have c3 := hW.cev.room
            have c4 := hW.cev.actor
            go_simp
            try with_reducible rfl
          simp only [Act.put, List.setIfInBounds_toArray, List.set]
          refine take_at (i := 18) (d := some 77) (fuel := 15) (v := ?_) rfl rfl (by kernel_rfl) (by kernel_rfl) (by kernel_rfl) (fun _ _ _ h => h) (Or.inl ⟨by rfl, ?_⟩) G2d ?_
          rotate_left
          · intro W hW
            have c1 : W.cell? ⟨w.heap.size, 129 + k * 6 + 3, none⟩ = some (.int .i64 (L.room k)) := hW.cod.being k 3 (by omega) (by omega)
            have c2 := hW.cev.kind
            have c3 := hW.cev.room
            have c4 := hW.cev.actor
            go_simp
            try with_reducible rfl
          simp only [Act.put, List.setIfInBounds_toArray, List.set]
          refine wpAnyH_all (fuel := 14) (rs := [19]) (by kernel_rfl) (by simp) ?_
          intro i hi
          obtain rfl : i = 19 := by simpa using hi
          clear hi
          refine call_at (d := some 78) rfl rfl (by rfl) 7 #[.agg L.cells, .int .i64 E.room] (by kernel_rfl) ?_
          refine (bright_any L E.room _).mono ?_
          rintro e w3 ⟨rfl, hb⟩
          have G3 : PvRel L E w w3 := G2d.call hb
          clear hb
          rw [HBr.out]
          refine ⟨_, rfl, G3, ?_⟩
          simp only [Act.put, List.setIfInBounds_toArray, List.set]
          refine take_at (i := 20) (d := some 79) (fuel := 13) (v := ?_) rfl rfl (by kernel_rfl) (by kernel_rfl) (by kernel_rfl) (fun _ _ _ h => h) (Or.inl ⟨by rfl, ?_⟩) G3 ?_
          rotate_left
          · intro W hW
            have c1 : W.cell? ⟨w.heap.size, 129 + k * 6 + 3, none⟩ = some (.int .i64 (L.room k)) := hW.cod.being k 3 (by omega) (by omega)
            have c2 := hW.cev.kind
            have c3 := hW.cev.room
            have c4 := hW.cev.actor
            go_simp
            try with_reducible rfl
          simp only [Act.put, List.setIfInBounds_toArray, List.set]
          refine take_at (i := 21) (d := some 80) (fuel := 12) (v := ?_) rfl rfl (by kernel_rfl) (by kernel_rfl) (by kernel_rfl) (fun _ _ _ h => h) (Or.inl ⟨by rfl, ?_⟩) G3 ?_
          rotate_left
          · intro W hW
            have c1 : W.cell? ⟨w.heap.size, 129 + k * 6 + 3, none⟩ = some (.int .i64 (L.room k)) := hW.cod.being k 3 (by omega) (by omega)
            have c2 := hW.cev.kind
            have c3 := hW.cev.room
            have c4 := hW.cev.actor
            go_simp
            try with_reducible rfl
          simp only [Act.put, List.setIfInBounds_toArray, List.set]
          refine take_at (i := 22) (d := some 81) (fuel := 11) (v := ?_) rfl rfl (by kernel_rfl) (by kernel_rfl) (by kernel_rfl) (fun _ _ _ h => h) (Or.inl ⟨by rfl, ?_⟩) G3 ?_
          rotate_left
          · intro W hW
            have c1 : W.cell? ⟨w.heap.size, 129 + k * 6 + 3, none⟩ = some (.int .i64 (L.room k)) := hW.cod.being k 3 (by omega) (by omega)
            have c2 := hW.cev.kind
            have c3 := hW.cev.room
            have c4 := hW.cev.actor
            go_simp
            try with_reducible rfl
          simp only [Act.put, List.setIfInBounds_toArray, List.set]
          refine take_at (i := 23) (d := some 82) (fuel := 10) (v := ?_) rfl rfl (by kernel_rfl) (by kernel_rfl) (by kernel_rfl) (fun _ _ _ h => h) (Or.inl ⟨by rfl, ?_⟩) G3 ?_
          rotate_left
          · intro W hW
            have c1 : W.cell? ⟨w.heap.size, 129 + k * 6 + 3, none⟩ = some (.int .i64 (L.room k)) := hW.cod.being k 3 (by omega) (by omega)
            have c2 := hW.cev.kind
            have c3 := hW.cev.room
            have c4 := hW.cev.actor
            go_simp
            try with_reducible rfl
          simp only [Act.put, List.setIfInBounds_toArray, List.set]
          refine take_at (i := 24) (d := some 83) (fuel := 9) (v := ?_) rfl rfl (by kernel_rfl) (by kernel_rfl) (by kernel_rfl) (fun _ _ _ h => h) (Or.inl ⟨by rfl, ?_⟩) G3 ?_
          rotate_left
          · intro W hW
            have c1 : W.cell? ⟨w.heap.size, 129 + k * 6 + 3, none⟩ = some (.int .i64 (L.room k)) := hW.cod.being k 3 (by omega) (by omega)
            have c2 := hW.cev.kind
            have c3 := hW.cev.room
            have c4 := hW.cev.actor
            go_simp
            try with_reducible rfl
          simp only [Act.put, List.setIfInBounds_toArray, List.set]
          refine take_at (i := 25) (d := some 84) (fuel := 8) (v := ?_) rfl rfl (by kernel_rfl) (by kernel_rfl) (by kernel_rfl) (fun _ _ _ h => h) (Or.inl ⟨by rfl, ?_⟩) G3 ?_
          rotate_left
          · intro W hW
            have c1 : W.cell? ⟨w.heap.size, 129 + k * 6 + 3, none⟩ = some (.int .i64 (L.room k)) := hW.cod.being k 3 (by omega) (by omega)
            have c2 := hW.cev.kind
            have c3 := hW.cev.room
            have c4 := hW.cev.actor
            go_simp
            try with_reducible rfl
          simp only [Act.put, List.setIfInBounds_toArray, List.set]
          refine take_at (i := 26) (d := some 85) (fuel := 7) (v := .agg L.cells) rfl rfl (by kernel_rfl) (by kernel_rfl) (by kernel_rfl) (fun _ _ _ h => h) (Or.inl ⟨by rfl, fun W hW => exec_land (.tmp 3) rfl w.heap.size rfl hW.cod⟩) G3 ?_
          simp only [Act.put, List.setIfInBounds_toArray, List.set]
          refine take_at (i := 27) (d := some 86) (fuel := 6) (v := ?_) rfl rfl (by kernel_rfl) (by kernel_rfl) (by kernel_rfl) (fun _ _ _ h => h) (Or.inl ⟨by rfl, ?_⟩) G3 ?_
          rotate_left
          · intro W hW
            have c1 : W.cell? ⟨w.heap.size, 129 + k * 6 + 3, none⟩ = some (.int .i64 (L.room k)) := hW.cod.being k 3 (by omega) (by omega)
            have c2 := hW.cev.kind
            have c3 := hW.cev.room
            have c4 := hW.cev.actor
            go_simp
            try with_reducible rfl
          simp only [Act.put, List.setIfInBounds_toArray, List.set]
          refine take_at (i := 28) (d := some 87) (fuel := 5) (v := ?_) rfl rfl (by kernel_rfl) (by kernel_rfl) (by kernel_rfl) (fun _ _ _ h => h) (Or.inl ⟨by rfl, ?_⟩) G3 ?_
          rotate_left
          · intro W hW
            have c1 : W.cell? ⟨w.heap.size, 129 + k * 6 + 3, none⟩ = some (.int .i64 (L.room k)) := hW.cod.being k 3 (by omega) (by omega)
            have c2 := hW.cev.kind
            have c3 := hW.cev.room
            have c4 := hW.cev.actor
            go_simp
            try with_reducible rfl
          simp only [Act.put, List.setIfInBounds_toArray, List.set]
          refine take_at (i := 29) (d := some 88) (fuel := 4) (v := ?_) rfl rfl (by kernel_rfl) (by kernel_rfl) (by kernel_rfl) (fun _ _ _ h => h) (Or.inl ⟨by rfl, ?_⟩) G3 ?_
          rotate_left
          · intro W hW
            have c1 : W.cell? ⟨w.heap.size, 129 + k * 6 + 3, none⟩ = some (.int .i64 (L.room k)) := hW.cod.being k 3 (by omega) (by omega)
            have c2 := hW.cev.kind
            have c3 := hW.cev.room
            have c4 := hW.cev.actor
            go_simp
            try with_reducible rfl
          simp only [Act.put, List.setIfInBounds_toArray, List.set]
          refine wpAnyH_all (fuel := 3) (rs := [30]) (by kernel_rfl) (by simp) ?_
          intro i hi
          obtain rfl : i = 30 := by simpa using hi
          clear hi
          refine call_at (d := some 89) rfl rfl (by rfl) 8 #[.agg L.cells, .int .i64 (k : Int), .int .i64 E.actor] (by kernel_rfl) ?_
          refine (sees_any L (k : Int) E.actor _).mono ?_
          rintro e w4 ⟨rfl, hb⟩
          have G4 : PvRel L E w w4 := G3.call hb
          clear hb
          rw [HSe.out]
          refine ⟨_, rfl, G4, ?_⟩
          simp only [Act.put, List.setIfInBounds_toArray, List.set]
          refine take_at (i := 31) (d := some 90) (fuel := 2) (v := ?_) rfl rfl (by kernel_rfl) (by kernel_rfl) (by kernel_rfl) (fun _ _ _ h => h) (Or.inl ⟨by rfl, ?_⟩) G4 ?_
          rotate_left
          · intro W hW
            have c1 : W.cell? ⟨w.heap.size, 129 + k * 6 + 3, none⟩ = some (.int .i64 (L.room k)) := hW.cod.being k 3 (by omega) (by omega)
            have c2 := hW.cev.kind
            have c3 := hW.cev.room
            have c4 := hW.cev.actor
            go_simp
            try with_reducible rfl
          simp only [Act.put, List.setIfInBounds_toArray, List.set]
          refine take_at (i := 32) (d := some 91) (fuel := 1) (v := ?_) rfl rfl (by kernel_rfl) (by kernel_rfl) (by kernel_rfl) (fun _ _ _ h => h) (Or.inl ⟨by rfl, ?_⟩) G4 ?_
          rotate_left
          · intro W hW
            have c1 : W.cell? ⟨w.heap.size, 129 + k * 6 + 3, none⟩ = some (.int .i64 (L.room k)) := hW.cod.being k 3 (by omega) (by omega)
            have c2 := hW.cev.kind
            have c3 := hW.cev.room
            have c4 := hW.cev.actor
            go_simp
            try with_reducible rfl
          simp only [Act.put, List.setIfInBounds_toArray, List.set]
          refine take_at (i := 33) (d := some 6) (fuel := 0) (v := ?_) rfl rfl (by kernel_rfl) (by kernel_rfl) (by kernel_rfl) (fun _ _ _ h => h) (Or.inl ⟨by rfl, ?_⟩) G4 ?_
          rotate_left
          · intro W hW
            have c1 : W.cell? ⟨w.heap.size, 129 + k * 6 + 3, none⟩ = some (.int .i64 (L.room k)) := hW.cod.being k 3 (by omega) (by omega)
            have c2 := hW.cev.kind
            have c3 := hW.cev.room
            have c4 := hW.cev.actor
            go_simp
            try with_reducible rfl
          simp only [Act.put, List.setIfInBounds_toArray, List.set]
          refine wpAnyH_done (by kernel_rfl) ?_ _
          go_wp2
          go_ret
          exact ⟨rfl, G4.low⟩
end Go.Proofs.YtdembcpljjgbkaeDoor
