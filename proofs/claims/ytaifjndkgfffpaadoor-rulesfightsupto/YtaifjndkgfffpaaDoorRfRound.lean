/-
  The document's own round of all fights: the contract. Written by a program.
-/
import Derived.Test.YtaifjndkgfffpaaDoorRfTurn
import Derived.Test.YtaifjndkgfffpaaDoorRuRound
namespace Go.Proofs.YtaifjndkgfffpaaDoor
open Go.RowKit
set_option linter.unusedVariables false

set_option maxRecDepth 100000 in
set_option maxHeartbeats 4000000 in
theorem roundof_bad (L : Ld) (draw : Int) (w : World) (hg : refG L = false) :
    Calls Tryd.prog 16 #[.agg L.cells, .int .i64 draw] w fun e w' => e = .returned (.tuple #[.agg L.cells, .slice none 0 0, .int .i64 2]) ∧ Below w.heap.size w w' := by
  have hz := (zero_of_info Tryd.zLand).1
  have D0 := hide (rn_start L w)
  go_enter Tryd.func16, Tryd.ntmps16
  go_wp2_with (refine wl_land (.tmp 2) rfl rfl _ L rfl D0.out.cod ?_)
  refine (goodland_any L _).mono ?_
  rintro e w1 ⟨rfl, hb1⟩
  have D1 := hide (D0.out.call hb1)
  rw [hg]
  clear hb1 D0
  go_wp2_with (first | (refine wl_land (.tmp 2) rfl rfl _ L rfl D1.out.cod ?_) | (refine wl_row 34 (.tmp 4) (.tmp 15) rfl rfl (w.heap.size + 1) L.cells rfl rfl 34 zl.cells D1.out.res (by rw [L.size]; exact Tryd.sizeLand) (by rw [L.size, zl.size]) (land_one L) ?_))
  exact bodyPost_ret (v := .tuple #[.agg L.cells, .slice none 0 0, .int .i64 2]) (res_land rfl _ _ (w.heap.size + 1) L _ _ rfl rfl rfl (setRow_heap _ _ _ _ _ _ D1.out.res)) rfl ⟨rfl, below_setRow D1.out.low (by omega) _⟩

theorem blow_facts (dr k : Nat) (hd : dr < 3) (hk : k < 6) : ∃ m : Nat, m < 3 ∧ ((dr : Int) + (k : Int)).tmod 3 = (m : Int) ∧ blowN dr k = 1 + (m : Int) ∧ wrap64 ((dr : Int) + (k : Int)) = (dr : Int) + (k : Int) := by
  refine ⟨(dr + k) % 3, by omega, ?_, rfl, by simp only [wrap64]; omega⟩
  rw [Int.tmod_eq_emod_of_nonneg (by omega)]; omega
theorem three_cell (w : World) (m : Nat) (hm : m < 3) : (w.alloc (.cells #[.int .i64 1, .int .i64 2, .int .i64 3] 3)).cell? ⟨w.heap.size, m, none⟩ = some (.int .i64 (1 + (m : Int))) := by
  rw [cell_of_row _ _ _ _ _ _ (heap_alloc_new w _)]
  match m, hm with
  | 0, _ | 1, _ | 2, _ => rfl
theorem blow_all (dr k : Nat) (hd : dr < 3) (hk : k < 6) : ∃ (m : Nat) (n : Int), m < 3 ∧ ((dr : Int) + (k : Int)).tmod 3 = (m : Int) ∧ blowN dr k = n ∧ wrap64 ((dr : Int) + (k : Int)) = (dr : Int) + (k : Int) ∧ 1 ≤ n ∧ n ≤ 3 ∧
    ∀ w : World, (w.alloc (.cells #[.int .i64 1, .int .i64 2, .int .i64 3] 3)).cell? ⟨w.heap.size, m, none⟩ = some (.int .i64 n) := by
  obtain ⟨m, h1, h2, h3, h4⟩ := blow_facts dr k hd hk
  exact ⟨m, 1 + (m : Int), h1, h2, h3, h4, by omega, by omega, fun w => three_cell w m h1⟩
/-- What region 10's loads read. -/
structure Rx (w1 : World) (x : Value) (Z : Ld) (Es : List Ev) (kx k : Nat) (W : World) : Prop where
  sn : Sn 66 [x] w1 Z Es W
  own : W.heap[kx]? = some (.cells (Z.bcells k) 31 (0, 0))
theorem Rx.call {w1 : World} {x : Value} {Z : Ld} {Es : List Ev} {kx k : Nat} {W W' : World} (h : Rx w1 x Z Es kx k W) (hb : Below W.heap.size W W') : Rx w1 x Z Es kx k W' :=
  ⟨h.sn.below hb, by rw [hb.block _ ((Array.getElem?_eq_some_iff.1 h.own).1)]; exact h.own⟩

set_option maxRecDepth 100000 in
set_option maxHeartbeats 8000000 in
theorem roundof_any (L : Ld) (draw : Int) (w : World) (L' : Ld) (Fs : List Ev) (hX : (roundK L (drawN draw) 6).1 = L') (hFs : (roundK L (drawN draw) 6).2 = Fs) (hvr : Vr w) (hf : Fine L) (hg : goodL L = true) (hrg : refG L = true) :
    Calls Tryd.prog 16 #[.agg L.cells, .int .i64 draw] w fun e w' => ∃ v, e = .returned (.tuple #[.agg L'.cells, v, .int .i64 0]) ∧ w'.ownsRow w.heap.size 52 16 v Fs.length (evc Fs) ∧ Below w.heap.size w w' := by
  have hz := (zero_of_info Tryd.zLand).1
  obtain ⟨hdr, hd3, hdl, hdu⟩ := draw_eq draw
  have hwd : wrap64 (draw.tmod 3 + 3) = draw.tmod 3 + 3 := by simp only [wrap64]; omega
  have HRG := hide (round_good hg (drawN draw))
  generalize drawN draw = dr at *
  have HVR := hide hvr
  have HF := hide hf
  have HXX := hide hX
  have HFF := hide hFs
  have D0 := hide (rn_start L w)
  clear hvr hf hX hFs hg
  go_enter Tryd.func16, Tryd.ntmps16
  go_wp2_with (refine wl_land (.tmp 2) rfl rfl _ L rfl D0.out.cod ?_)
  refine (goodland_any L _).mono ?_
  rintro e w1 ⟨rfl, hb1⟩
  have D1 := hide (D0.out.call hb1)
  rw [hrg]
  clear hb1 D0 hrg
  go_wp2_with (first | (refine wl_land (.tmp 2) rfl rfl _ L rfl D1.out.cod ?_) | (refine wl_build 66 #[(0, .tmp 16)] rfl ?hh _ _ (built_turn L) ?hv ?_))
  go_loopw [19] (fun c wr => ∃ k : Nat, k ≤ 6 ∧ c = .int .i64 k ∧ ∃ x : Int, Sn 66 [.int .i64 x] w1 (roundK L dr k).1 (roundK L dr k).2 wr) (fun c _ => 6 - (intOf c).toNat)
  case atStart => exact ⟨0, by omega, rfl, 0, tn_start L _ w1⟩
  case round =>
    obtain ⟨k, hle, rfl, x, Rh⟩ := hrel
    have R := hide Rh
    clear Rh
    by_cases hk : k < 6
    · have hki : (k : Int) < 6 := by omega
      have hG := HRG.out k (by omega)
      have hFk := hide (hG.2.fine HF.out hG.1)
      have hGk := hide hG.1
      have hlk := round_len L dr k
      have V1 := hide (HVR.out.below D1.out.low (Nat.le_refl _))
      obtain ⟨m3, nn, hm33, hk2, hbn, hk1, hn1, hn3, hqa⟩ := blow_all dr k hd3 hk
      have hmi : (m3 : Int) < 3 := by omega
      have QA := hide hqa
      have HBN := hide hbn
      clear hqa
      clear hG
      have HNX := hide (show roundK L dr (k + 1) = if (roundK L dr k).1.foe k = 0 then roundK L dr k else (fightL (roundK L dr k).1 k nn, (roundK L dr k).2 ++ fightE (roundK L dr k).1 k nn) by rw [← hbn]; rfl)
      clear hbn
      generalize roundK L dr k = ZE at *
      obtain ⟨Z, Es⟩ := ZE
      simp only at R hFk hGk hlk HNX
      have RX : Hid (Rx w1 (.int .i64 x) Z Es wr.heap.size k (wr.alloc (.cells (Z.bcells k) 31))) := ⟨R.out.alloc _, heap_alloc_new wr _⟩
      have hlx : wr.heap.size < (wr.alloc (.cells (Z.bcells k) 31)).heap.size := by simp
      go_upto_region 8 with (first | (refine wl_mid 31 (.tmp 27) rfl rfl w1.heap.size (129 + k * 6) (Z.bcells k).toList _ rfl (R.out.beingR k hk) Tryd.underlying31 rfl Tryd.sizeBeing ?_) | (refine wl_newB (.tmp 9) (.tmp 28) rfl rfl _ k Z rfl rfl rfl rfl ?_))
      generalize hwy : wr.alloc (.cells (Z.bcells k) 31) = wy at *
      generalize hky : wr.heap.size = kx at *
      clear hwy hky R
      simp only [Act.put]
      have y5 : wy.cell? ⟨kx, 5, none⟩ = some (.int .i64 (Z.foe k)) := by rw [cell_of_row _ _ _ _ _ _ RX.out.own]; rfl
      by_cases h0 : Z.foe k = 0
      · have hb0 : (Z.foe k == 0) = true := by simp [h0]
        have HN := hide (show roundK L dr (k + 1) = (Z, Es) by rw [HNX.out, if_pos h0])
        clear h0
        go_wp2
        go_roundw
        case rel => exact ⟨k + 1, by omega, by go_num, x, by rw [HN.out]; exact RX.out.sn⟩
        case measure => simp [intOf]; omega
      · have hb0 : (Z.foe k == 0) = false := by simp [h0]
        have HN := hide (show roundK L dr (k + 1) = (fightL Z k nn, Es ++ fightE Z k nn) by rw [HNX.out, if_neg h0])
        obtain ⟨c, hc, ec⟩ : ∃ c : Nat, c < 6 ∧ Z.foe k = (c : Int) + 1 := by
          rcases hFk.out.foe k hk with h | h
          · exact absurd h h0
          · exact h
        have HFN := hide (show foeN Z k = c by unfold foeN; rw [ec]; omega)
        have hci : (c : Int) < 6 := by omega
        rw [ec] at y5 hb0
        have hw : wrap64 ((c : Int) + 1 - 1) = (c : Int) := by rw [show (c : Int) + 1 - 1 = (c : Int) by omega]; simp only [wrap64]; omega
        have hhl := hFk.out.health c hc
        clear h0 ec HNX
        have HAB : Hid (abtL Z (c : Int) = Z.here c) := by unfold abtL; rw [amg_mk (by omega) (by omega)]; rfl
        go_upto_region 10 with fail
        cases hh : Z.here c with
        | false =>
          have HM := hide (show meets Z k = false by unfold meets; rw [HFN.out, hh]; rfl)
          have HL := hide (show fightL Z k nn = Z.setFoe k 0 by unfold fightL; rw [if_neg (by simp [HM.out])])
          have HE := hide (show fightE Z k nn = [] by unfold fightE; rw [if_neg (by simp [HM.out])])
          rw [hh] at HAB
          clear hh
          refine wp_region_held (S := Rx w1 (.int .i64 x) Z Es kx k) (by kernel_rfl) ?_
          have HS : Rx w1 (.int .i64 x) Z Es kx k wy.drew := RX.out.call (Below.refl _ _).drew
          clear RX y5
          change wpAnyH _ _ _ _ _ _ _ _ wy.drew
          generalize wy.drew = W0 at HS ⊢
          refine take_at (i := 0) (d := some 35) (fuel := 19) (v := ?_) rfl rfl (by kernel_rfl) (by kernel_rfl) (by kernel_rfl) (fun _ _ _ h => h) (Or.inl ⟨by rfl, ?_⟩) HS ?_
          rotate_left
          · intro W hW
            go_simp
            try with_reducible rfl
          simp only [Act.put, List.setIfInBounds_toArray, List.set]
          refine take_at (i := 1) (d := some 36) (fuel := 18) (v := ?_) rfl rfl (by kernel_rfl) (by kernel_rfl) (by kernel_rfl) (fun _ _ _ h => h) (Or.inl ⟨by rfl, ?_⟩) HS ?_
          rotate_left
          · intro W hW
            go_simp
            try with_reducible rfl
          simp only [Act.put, List.setIfInBounds_toArray, List.set]
          refine take_at (i := 2) (d := some 37) (fuel := 17) (v := ?_) rfl rfl (by kernel_rfl) (by kernel_rfl) (by kernel_rfl) (fun _ _ _ h => h) (Or.inl ⟨by rfl, ?_⟩) HS ?_
          rotate_left
          · intro W hW
            go_simp
            try with_reducible rfl
          simp only [Act.put, List.setIfInBounds_toArray, List.set]
          refine take_at (i := 3) (d := some 38) (fuel := 16) (v := .agg Z.cells) rfl rfl (by kernel_rfl) (by kernel_rfl) (by kernel_rfl) (fun _ _ _ h => h) (Or.inl ⟨by rfl, fun W hW => exec_scene (.tmp 37) rfl rfl hW.sn⟩) HS ?_
          simp only [Act.put, List.setIfInBounds_toArray, List.set]
          refine take_at (i := 4) (d := some 39) (fuel := 15) (v := ?_) rfl rfl (by kernel_rfl) (by kernel_rfl) (by kernel_rfl) (fun _ _ _ h => h) (Or.inl ⟨by rfl, ?_⟩) HS ?_
          rotate_left
          · intro W hW
            go_simp
            try with_reducible rfl
          simp only [Act.put, List.setIfInBounds_toArray, List.set]
          refine wpAnyH_all (fuel := 14) (rs := [5]) (by kernel_rfl) (by simp) ?_
          intro i hi
          obtain rfl : i = 5 := by simpa using hi
          clear hi
          refine call_at (d := some 40) rfl rfl (by rfl) 30 #[.agg Z.cells, .int .i64 (c : Int)] (by kernel_rfl) ?_
          refine (about_any Z (c : Int) _).mono ?_
          rintro e x2 ⟨rfl, hb2⟩
          rw [HAB.out]
          have S2 := HS.call hb2
          clear hb2 HS
          refine ⟨_, rfl, S2, ?_⟩
          simp only [Act.put, List.setIfInBounds_toArray, List.set]
          refine take_at (i := 6) (d := some 41) (fuel := 13) (v := ?_) rfl rfl (by kernel_rfl) (by kernel_rfl) (by kernel_rfl) (fun _ _ _ h => h) (Or.inl ⟨by rfl, ?_⟩) S2 ?_
          rotate_left
          · intro W hW
            go_simp
            try with_reducible rfl
          simp only [Act.put, List.setIfInBounds_toArray, List.set]
          refine take_at (i := 7) (d := some 42) (fuel := 12) (v := ?_) rfl rfl (by kernel_rfl) (by kernel_rfl) (by kernel_rfl) (fun _ _ _ h => h) (Or.inl ⟨by rfl, ?_⟩) S2 ?_
          rotate_left
          · intro W hW
            go_simp
            try with_reducible rfl
          simp only [Act.put, List.setIfInBounds_toArray, List.set]
          refine take_at (i := 8) (d := some 43) (fuel := 11) (v := undef) rfl rfl (by kernel_rfl) (by kernel_rfl) (by kernel_rfl) (fun _ _ _ h => h) (Or.inr ⟨by rfl, rfl⟩) S2 ?_
          simp only [Act.put, List.setIfInBounds_toArray, List.set]
          refine take_at (i := 9) (d := some 44) (fuel := 10) (v := undef) rfl rfl (by kernel_rfl) (by kernel_rfl) (by kernel_rfl) (fun _ _ _ h => h) (Or.inr ⟨by rfl, rfl⟩) S2 ?_
          simp only [Act.put, List.setIfInBounds_toArray, List.set]
          refine take_at (i := 10) (d := some 45) (fuel := 9) (v := undef) rfl rfl (by kernel_rfl) (by kernel_rfl) (by kernel_rfl) (fun _ _ _ h => h) (Or.inr ⟨by rfl, rfl⟩) S2 ?_
          simp only [Act.put, List.setIfInBounds_toArray, List.set]
          refine take_at (i := 11) (d := some 46) (fuel := 8) (v := undef) rfl rfl (by kernel_rfl) (by kernel_rfl) (by kernel_rfl) (fun _ _ _ h => h) (Or.inr ⟨by rfl, rfl⟩) S2 ?_
          simp only [Act.put, List.setIfInBounds_toArray, List.set]
          refine take_at (i := 12) (d := some 47) (fuel := 7) (v := undef) rfl rfl (by kernel_rfl) (by kernel_rfl) (by kernel_rfl) (fun _ _ _ h => h) (Or.inr ⟨by rfl, rfl⟩) S2 ?_
          simp only [Act.put, List.setIfInBounds_toArray, List.set]
          refine take_at (i := 13) (d := some 48) (fuel := 6) (v := undef) rfl rfl (by kernel_rfl) (by kernel_rfl) (by kernel_rfl) (fun _ _ _ h => h) (Or.inr ⟨by rfl, rfl⟩) S2 ?_
          simp only [Act.put, List.setIfInBounds_toArray, List.set]
          refine take_at (i := 14) (d := some 49) (fuel := 5) (v := undef) rfl rfl (by kernel_rfl) (by kernel_rfl) (by kernel_rfl) (fun _ _ _ h => h) (Or.inr ⟨by rfl, rfl⟩) S2 ?_
          simp only [Act.put, List.setIfInBounds_toArray, List.set]
          refine take_at (i := 15) (d := some 50) (fuel := 4) (v := undef) rfl rfl (by kernel_rfl) (by kernel_rfl) (by kernel_rfl) (fun _ _ _ h => h) (Or.inr ⟨by rfl, rfl⟩) S2 ?_
          simp only [Act.put, List.setIfInBounds_toArray, List.set]
          refine take_at (i := 16) (d := some 51) (fuel := 3) (v := undef) rfl rfl (by kernel_rfl) (by kernel_rfl) (by kernel_rfl) (fun _ _ _ h => h) (Or.inr ⟨by rfl, rfl⟩) S2 ?_
          simp only [Act.put, List.setIfInBounds_toArray, List.set]
          refine take_at (i := 17) (d := some 52) (fuel := 2) (v := undef) rfl rfl (by kernel_rfl) (by kernel_rfl) (by kernel_rfl) (fun _ _ _ h => h) (Or.inr ⟨by rfl, rfl⟩) S2 ?_
          simp only [Act.put, List.setIfInBounds_toArray, List.set]
          refine take_at (i := 18) (d := some 53) (fuel := 1) (v := undef) rfl rfl (by kernel_rfl) (by kernel_rfl) (by kernel_rfl) (fun _ _ _ h => h) (Or.inr ⟨by rfl, rfl⟩) S2 ?_
          simp only [Act.put, List.setIfInBounds_toArray, List.set]
          refine take_at (i := 19) (d := some 54) (fuel := 0) (v := ?_) rfl rfl (by kernel_rfl) (by kernel_rfl) (by kernel_rfl) (fun _ _ _ h => h) (Or.inl ⟨by rfl, ?_⟩) S2 ?_
          rotate_left
          · intro W hW
            go_simp
            try with_reducible rfl
          simp only [Act.put, List.setIfInBounds_toArray, List.set]
          refine wpAnyH_done (by kernel_rfl) ?_ _
          have T2 := True.intro
          have c5 := S2.sn.being k 5 hk (by omega)
          have f5 := S2.sn.soft (129 + k * 6 + 5)
          simp only [Ld.beingCell] at c5
          have X := hide (S2.sn.set (by omega) (Z.up_foe k hk 0))
          clear S2
          go_wp2
          go_roundw
          case rel => exact ⟨k + 1, by omega, by go_num, x, by rw [HN.out, HL.out, HE.out, List.append_nil]; exact X.out⟩
          case measure => simp [intOf]; omega
        | true =>
          rw [hh] at HAB
          by_cases hr : Z.room c = Z.room k
          · have hrb : (Z.room c != Z.room k) = false := by simp [hr]
            have HM := hide (show meets Z k = true by unfold meets; rw [HFN.out, hh]; simp [hr])
            have HH := hide hh
            clear hh hr
            refine wp_region_held (S := Rx w1 (.int .i64 x) Z Es kx k) (by kernel_rfl) ?_
            have HS : Rx w1 (.int .i64 x) Z Es kx k wy.drew := RX.out.call (Below.refl _ _).drew
            clear RX y5
            change wpAnyH _ _ _ _ _ _ _ _ wy.drew
            generalize wy.drew = W0 at HS ⊢
            refine take_at (i := 0) (d := some 35) (fuel := 19) (v := ?_) rfl rfl (by kernel_rfl) (by kernel_rfl) (by kernel_rfl) (fun _ _ _ h => h) (Or.inl ⟨by rfl, ?_⟩) HS ?_
            rotate_left
            · intro W hW
              go_simp
              try with_reducible rfl
            simp only [Act.put, List.setIfInBounds_toArray, List.set]
            refine take_at (i := 1) (d := some 36) (fuel := 18) (v := ?_) rfl rfl (by kernel_rfl) (by kernel_rfl) (by kernel_rfl) (fun _ _ _ h => h) (Or.inl ⟨by rfl, ?_⟩) HS ?_
            rotate_left
            · intro W hW
              go_simp
              try with_reducible rfl
            simp only [Act.put, List.setIfInBounds_toArray, List.set]
            refine take_at (i := 2) (d := some 37) (fuel := 17) (v := ?_) rfl rfl (by kernel_rfl) (by kernel_rfl) (by kernel_rfl) (fun _ _ _ h => h) (Or.inl ⟨by rfl, ?_⟩) HS ?_
            rotate_left
            · intro W hW
              go_simp
              try with_reducible rfl
            simp only [Act.put, List.setIfInBounds_toArray, List.set]
            refine take_at (i := 3) (d := some 38) (fuel := 16) (v := .agg Z.cells) rfl rfl (by kernel_rfl) (by kernel_rfl) (by kernel_rfl) (fun _ _ _ h => h) (Or.inl ⟨by rfl, fun W hW => exec_scene (.tmp 37) rfl rfl hW.sn⟩) HS ?_
            simp only [Act.put, List.setIfInBounds_toArray, List.set]
            refine take_at (i := 4) (d := some 39) (fuel := 15) (v := ?_) rfl rfl (by kernel_rfl) (by kernel_rfl) (by kernel_rfl) (fun _ _ _ h => h) (Or.inl ⟨by rfl, ?_⟩) HS ?_
            rotate_left
            · intro W hW
              go_simp
              try with_reducible rfl
            simp only [Act.put, List.setIfInBounds_toArray, List.set]
            refine wpAnyH_all (fuel := 14) (rs := [5]) (by kernel_rfl) (by simp) ?_
            intro i hi
            obtain rfl : i = 5 := by simpa using hi
            clear hi
            refine call_at (d := some 40) rfl rfl (by rfl) 30 #[.agg Z.cells, .int .i64 (c : Int)] (by kernel_rfl) ?_
            refine (about_any Z (c : Int) _).mono ?_
            rintro e x2 ⟨rfl, hb2⟩
            rw [HAB.out]
            have S2 := HS.call hb2
            clear hb2 HS
            refine ⟨_, rfl, S2, ?_⟩
            simp only [Act.put, List.setIfInBounds_toArray, List.set]
            refine take_at (i := 6) (d := some 41) (fuel := 13) (v := ?_) rfl rfl (by kernel_rfl) (by kernel_rfl) (by kernel_rfl) (fun _ _ _ h => h) (Or.inl ⟨by rfl, ?_⟩) S2 ?_
            rotate_left
            · intro W hW
              go_simp
              try with_reducible rfl
            simp only [Act.put, List.setIfInBounds_toArray, List.set]
            refine take_at (i := 7) (d := some 42) (fuel := 12) (v := ?_) rfl rfl (by kernel_rfl) (by kernel_rfl) (by kernel_rfl) (fun _ _ _ h => h) (Or.inl ⟨by rfl, ?_⟩) S2 ?_
            rotate_left
            · intro W hW
              go_simp
              try with_reducible rfl
            simp only [Act.put, List.setIfInBounds_toArray, List.set]
            refine take_at (i := 8) (d := some 43) (fuel := 11) (v := ?_) rfl rfl (by kernel_rfl) (by kernel_rfl) (by kernel_rfl) (fun _ _ _ h => h) (Or.inl ⟨by rfl, ?_⟩) S2 ?_
            rotate_left
            · intro W hW
              go_simp
              try with_reducible rfl
            simp only [Act.put, List.setIfInBounds_toArray, List.set]
            refine take_at (i := 9) (d := some 44) (fuel := 10) (v := ?_) rfl rfl (by kernel_rfl) (by kernel_rfl) (by kernel_rfl) (fun _ _ _ h => h) (Or.inl ⟨by rfl, ?_⟩) S2 ?_
            rotate_left
            · intro W hW
              go_simp
              try with_reducible rfl
            simp only [Act.put, List.setIfInBounds_toArray, List.set]
            refine take_at (i := 10) (d := some 45) (fuel := 9) (v := ?_) rfl rfl (by kernel_rfl) (by kernel_rfl) (by kernel_rfl) (fun _ _ _ h => h) (Or.inl ⟨by rfl, ?_⟩) S2 ?_
            rotate_left
            · intro W hW
              go_simp
              try with_reducible rfl
            simp only [Act.put, List.setIfInBounds_toArray, List.set]
            refine take_at (i := 11) (d := some 46) (fuel := 8) (v := ?_) rfl rfl (by kernel_rfl) (by kernel_rfl) (by kernel_rfl) (fun _ _ _ h => h) (Or.inl ⟨by rfl, ?_⟩) S2 ?_
            rotate_left
            · intro W hW
              go_simp
              try with_reducible rfl
            simp only [Act.put, List.setIfInBounds_toArray, List.set]
            refine take_at (i := 12) (d := some 47) (fuel := 7) (v := ?_) rfl rfl (by kernel_rfl) (by kernel_rfl) (by kernel_rfl) (fun _ _ _ h => h) (Or.inl ⟨by rfl, ?_⟩) S2 ?_
            rotate_left
            · intro W hW
              go_simp
              try with_reducible rfl
            simp only [Act.put, List.setIfInBounds_toArray, List.set]
            refine take_at (i := 13) (d := some 48) (fuel := 6) (v := ?_) rfl rfl (by kernel_rfl) (by kernel_rfl) (by kernel_rfl) (fun _ _ _ h => h) (Or.inl ⟨by rfl, ?_⟩) S2 ?_
            rotate_left
            · intro W hW
              go_simp
              try with_reducible rfl
            simp only [Act.put, List.setIfInBounds_toArray, List.set]
            refine take_at (i := 14) (d := some 49) (fuel := 5) (v := ?_) rfl rfl (by kernel_rfl) (by kernel_rfl) (by kernel_rfl) (fun _ _ _ h => h) (Or.inl ⟨by rfl, ?_⟩) S2 ?_
            rotate_left
            · intro W hW
              go_simp
              try with_reducible rfl
            simp only [Act.put, List.setIfInBounds_toArray, List.set]
            refine take_at (i := 15) (d := some 50) (fuel := 4) (v := ?_) rfl rfl (by kernel_rfl) (by kernel_rfl) (by kernel_rfl) (fun _ _ _ h => h) (Or.inl ⟨by rfl, ?_⟩) S2 ?_
            rotate_left
            · intro W hW
              have z3 := hW.sn.being c 3 hc (by omega)
              have z4 : W.cell? ⟨kx, 3, none⟩ = some (.int .i64 (Z.room k)) := by rw [cell_of_row _ _ _ _ _ _ hW.own]; rfl
              simp only [Ld.beingCell] at z3
              go_simp
              try with_reducible rfl
            simp only [Act.put, List.setIfInBounds_toArray, List.set]
            refine take_at (i := 16) (d := some 51) (fuel := 3) (v := ?_) rfl rfl (by kernel_rfl) (by kernel_rfl) (by kernel_rfl) (fun _ _ _ h => h) (Or.inl ⟨by rfl, ?_⟩) S2 ?_
            rotate_left
            · intro W hW
              go_simp
              try with_reducible rfl
            simp only [Act.put, List.setIfInBounds_toArray, List.set]
            refine take_at (i := 17) (d := some 52) (fuel := 2) (v := ?_) rfl rfl (by kernel_rfl) (by kernel_rfl) (by kernel_rfl) (fun _ _ _ h => h) (Or.inl ⟨by rfl, ?_⟩) S2 ?_
            rotate_left
            · intro W hW
              have z3 := hW.sn.being c 3 hc (by omega)
              have z4 : W.cell? ⟨kx, 3, none⟩ = some (.int .i64 (Z.room k)) := by rw [cell_of_row _ _ _ _ _ _ hW.own]; rfl
              simp only [Ld.beingCell] at z3
              go_simp
              try with_reducible rfl
            simp only [Act.put, List.setIfInBounds_toArray, List.set]
            refine take_at (i := 18) (d := some 53) (fuel := 1) (v := ?_) rfl rfl (by kernel_rfl) (by kernel_rfl) (by kernel_rfl) (fun _ _ _ h => h) (Or.inl ⟨by rfl, ?_⟩) S2 ?_
            rotate_left
            · intro W hW
              go_simp
              try with_reducible rfl
            simp only [Act.put, List.setIfInBounds_toArray, List.set]
            refine take_at (i := 19) (d := some 54) (fuel := 0) (v := ?_) rfl rfl (by kernel_rfl) (by kernel_rfl) (by kernel_rfl) (fun _ _ _ h => h) (Or.inl ⟨by rfl, ?_⟩) S2 ?_
            rotate_left
            · intro W hW
              go_simp
              try with_reducible rfl
            simp only [Act.put, List.setIfInBounds_toArray, List.set]
            refine wpAnyH_done (by kernel_rfl) ?_ _
            have T2 := True.intro
            have q3 := QA.out x2
            have f165 := S2.sn.soft 165
            have c165 : x2.cell? ⟨w1.heap.size, 165, none⟩ = some (.int .i64 x) := S2.sn.fore 0 (by simp)
            have hl2 := S2.sn.lt
            have HSB := hide ((S2.sn.whose (.int .i64 (k : Int))).alloc (.cells #[.int .i64 1, .int .i64 2, .int .i64 3] 3))
            clear S2 T2
            go_wp2_with fail
            refine (tadd_with HSB.out hk c hc 14 0 nn ⟨#[]⟩ ⟨#[]⟩ (by omega)).mono ?_
            rintro e w3 ⟨rfl, S3h, T3h⟩
            have S3 := hide S3h
            clear S3h T3h HSB q3 f165 c165 hl2
            have HEv := hide (show allE Z (addE Z k 14 (c : Int) 0 nn (Z.bname c) ⟨#[]⟩ ⟨#[]⟩) = allE Z { evW Z 14 k c with num := nn } from rfl)
            have hl3 := S3.out.lt
            have d4 := S3.out.being c 4 hc (by omega)
            have f4 := S3.out.soft (129 + c * 6 + 4)
            simp only [Ld.beingCell] at d4
            by_cases hd : Z.health c - nn < 1
            · have hdb : decide (nn < Z.health c) = false := decide_eq_false (by omega)
              have hgH : goodL (Z.setHealth c 1) = true := good_health hGk.out hc HH.out (by omega) (by omega)
              have HFH := hide ((al_health Z c 1).fine hFk.out hgH)
              have hgL := (good_letGo hgH c hc).1
              have HFB := hide ((((al_health Z c 1).trans (al_letGo _ c)).trans ((al_room _ c 0).trans (al_health _ c 10))).fine hFk.out (good_begin hgL c hc HH.out))
              have HL := hide (show fightL Z k nn = if c < 2 then zeroB (letGoL (Z.setHealth c 1) c) c else beginL (letGoL (Z.setHealth c 1) c) c by unfold fightL; rw [if_pos HM.out, HFN.out, if_pos hd]; unfold dieL hitL; rw [health_twice])
              have HE := hide (show fightE Z k nn = allE Z { evW Z 14 k c with num := nn } :: (allE (Z.setHealth c 1) (evN (Z.setHealth c 1) 15 c) :: (if c < 2 then [] else beginE (beginL (letGoL (Z.setHealth c 1) c) c) c)) by unfold fightE; rw [if_pos HM.out, HFN.out, if_pos hd]; unfold dieE hitL; rw [health_twice])
              have f165 := S3.out.soft 165
              have c165 : w3.cell? ⟨w1.heap.size, 165, none⟩ = some (.int .i64 (k : Int)) := S3.out.fore 0 (by simp)
              have S4 := hide (S3.out.whose (.int .i64 (c : Int)))
              have e4 := S4.out.being c 4 hc (by omega)
              have g4 := S4.out.soft (129 + c * 6 + 4)
              simp only [Ld.beingCell] at e4
              have S5 := hide (S4.out.set (by omega) (Z.up_health c hc 1))
              have hne1 : 129 + c * 6 + 4 ≠ 165 := by omega
              have hne2 : 165 ≠ 129 + c * 6 + 4 := by omega
              clear hgH hgL hd S3 S4
              go_wp2_with fail
              refine (tadd_none S5.out hc 15 0 0 ⟨#[]⟩ ⟨#[]⟩ (by simp only [List.length_append, List.length_cons, List.length_nil]; omega)).mono ?_
              rintro e w5 ⟨rfl, S6h, T6h⟩
              have S6 := hide S6h
              clear S6h T6h S5 d4 f4 f165 c165 e4 g4
              go_wp2_with fail
              refine (leave_any S6.out HFH.out hc).mono ?_
              rintro e w6 ⟨rfl, S7h, T7h⟩
              have S7 := hide S7h
              clear S7h T7h S6
              by_cases h2 : c < 2
              · have h2i : decide ((c : Int) < 2) = true := decide_eq_true (by omega)
                have hw := S7.out.whole c hc ⟨#[]⟩ false false 0 0 0
                have X := hide hw.1
                have HL2 := hide (show fightL Z k nn = zeroB (letGoL (Z.setHealth c 1) c) c by rw [HL.out, if_pos h2])
                have HE2 := hide (show fightE Z k nn = allE Z { evW Z 14 k c with num := nn } :: (allE (Z.setHealth c 1) (evN (Z.setHealth c 1) 15 c) :: []) by rw [HE.out, if_pos h2])
                clear hw h2 HL HE
                go_upto_region 26 with (refine wl_whole (.tmp 128) (.tmp 124) rfl rfl c hc ⟨#[]⟩ false false 0 0 0 rfl rfl S7.out ?_)
                generalize w6.setCells w1.heap.size (129 + c * 6) [.string ⟨#[]⟩, .bool false, .bool false, .int .i64 0, .int .i64 0, .int .i64 0] = wq at X ⊢
                clear S7
                simp only [Act.put]
                go_wp2
                go_roundw
                case rel => exact ⟨k + 1, by omega, by go_num, (c : Int), by rw [HN.out, HL2.out, HE2.out]; have h := X.out; rw [List.append_assoc] at h; exact h⟩
                case measure => simp [intOf]; omega
              · have h2i : decide ((c : Int) < 2) = false := decide_eq_false (by omega)
                have HL2 := hide (show fightL Z k nn = beginL (letGoL (Z.setHealth c 1) c) c by rw [HL.out, if_neg h2])
                have HE2 := hide (show fightE Z k nn = allE Z { evW Z 14 k c with num := nn } :: (allE (Z.setHealth c 1) (evN (Z.setHealth c 1) 15 c) :: (beginE (beginL (letGoL (Z.setHealth c 1) c) c) c)) by rw [HE.out, if_neg h2])
                have e3 := S7.out.being c 3 hc (by omega)
                have g3 := S7.out.soft (129 + c * 6 + 3)
                have e4 := S7.out.being c 4 hc (by omega)
                have g4 := S7.out.soft (129 + c * 6 + 4)
                simp only [Ld.beingCell] at e3 e4
                have S8 : Hid (Sn 66 [.int .i64 (c : Int)] w1 (beginL (letGoL (Z.setHealth c 1) c) c) (Es ++ [allE Z (addE Z k 14 (c : Int) 0 nn (Z.bname c) ⟨#[]⟩ ⟨#[]⟩)] ++ [allE (Z.setHealth c 1) (addE (Z.setHealth c 1) c 15 (-1) 0 0 ⟨#[]⟩ ⟨#[]⟩ ⟨#[]⟩)]) ((w6.drew.setCell ⟨w1.heap.size, 129 + c * 6 + 3, none⟩ (.int .i64 0)).setCell ⟨w1.heap.size, 129 + c * 6 + 4, none⟩ (.int .i64 10))) :=
                  (S7.out.drew.set (by omega) ((letGoL (Z.setHealth c 1) c).up_room c hc 0)).set (by omega) (((letGoL (Z.setHealth c 1) c).setRoom c 0).up_health c hc 10)
                clear h2 HL HE S7
                go_wp2_with fail
                go_region
                all_goals
                  go_wp2_with fail
                  refine (tadd_none S8.out hc 17 0 0 ⟨#[]⟩ ⟨#[]⟩ (by simp only [List.length_append, List.length_cons, List.length_nil]; omega)).mono ?_
                  rintro e w8 ⟨rfl, S9h, T9h⟩
                  have S9 := hide S9h
                  clear S9h T9h
                  go_wp2_with fail
                  refine (tlook_any S9.out HFB.out V1.out hc (by simp only [List.length_append, List.length_cons, List.length_nil]; omega)).mono ?_
                  rintro e w9 ⟨rfl, SAh, TAh⟩
                  have SA := hide SAh
                  clear SAh TAh S9
                  go_wp2
                  go_roundw
                  case rel => exact ⟨k + 1, by omega, by go_num, (c : Int), by rw [HN.out, HL2.out, HE2.out]; have h := SA.out; simp only [List.append_assoc, List.cons_append, List.nil_append] at h; exact h⟩
                  case measure => simp [intOf]; omega
            · have hdb : decide (nn < Z.health c) = true := decide_eq_true (by omega)
              have HL := hide (show fightL Z k nn = hitL Z c nn by unfold fightL; rw [if_pos HM.out, HFN.out, if_neg hd])
              have HE := hide (show fightE Z k nn = [allE Z { evW Z 14 k c with num := nn }] by unfold fightE; rw [if_pos HM.out, HFN.out, if_neg hd])
              have hwh : wrap64 (Z.health c - nn) = Z.health c - nn := by simp only [wrap64]; omega
              have X : Hid (Sn 66 [.int .i64 (k : Int)] w1 (hitL Z c nn) (Es ++ [allE Z (addE Z k 14 (c : Int) 0 nn (Z.bname c) ⟨#[]⟩ ⟨#[]⟩)]) (w3.drew.setCell ⟨w1.heap.size, 129 + c * 6 + 4, none⟩ (.int .i64 (Z.health c - nn)))) := S3.out.drew.set (by omega) (Z.up_health c hc (Z.health c - nn))
              clear hd S3
              go_wp2_with fail
              go_region
              go_wp2
              go_roundw
              case rel => exact ⟨k + 1, by omega, by go_num, (k : Int), by rw [HN.out, HL.out, HE.out]; exact X.out⟩
              case measure => simp [intOf]; omega
          · have hrb : (Z.room c != Z.room k) = true := by simp [hr]
            have HM := hide (show meets Z k = false by unfold meets; rw [HFN.out, hh]; simp [hr])
            have HL := hide (show fightL Z k nn = Z.setFoe k 0 by unfold fightL; rw [if_neg (by simp [HM.out])])
            have HE := hide (show fightE Z k nn = [] by unfold fightE; rw [if_neg (by simp [HM.out])])
            clear hh hr
            refine wp_region_held (S := Rx w1 (.int .i64 x) Z Es kx k) (by kernel_rfl) ?_
            have HS : Rx w1 (.int .i64 x) Z Es kx k wy.drew := RX.out.call (Below.refl _ _).drew
            clear RX y5
            change wpAnyH _ _ _ _ _ _ _ _ wy.drew
            generalize wy.drew = W0 at HS ⊢
            refine take_at (i := 0) (d := some 35) (fuel := 19) (v := ?_) rfl rfl (by kernel_rfl) (by kernel_rfl) (by kernel_rfl) (fun _ _ _ h => h) (Or.inl ⟨by rfl, ?_⟩) HS ?_
            rotate_left
            · intro W hW
              go_simp
              try with_reducible rfl
            simp only [Act.put, List.setIfInBounds_toArray, List.set]
            refine take_at (i := 1) (d := some 36) (fuel := 18) (v := ?_) rfl rfl (by kernel_rfl) (by kernel_rfl) (by kernel_rfl) (fun _ _ _ h => h) (Or.inl ⟨by rfl, ?_⟩) HS ?_
            rotate_left
            · intro W hW
              go_simp
              try with_reducible rfl
            simp only [Act.put, List.setIfInBounds_toArray, List.set]
            refine take_at (i := 2) (d := some 37) (fuel := 17) (v := ?_) rfl rfl (by kernel_rfl) (by kernel_rfl) (by kernel_rfl) (fun _ _ _ h => h) (Or.inl ⟨by rfl, ?_⟩) HS ?_
            rotate_left
            · intro W hW
              go_simp
              try with_reducible rfl
            simp only [Act.put, List.setIfInBounds_toArray, List.set]
            refine take_at (i := 3) (d := some 38) (fuel := 16) (v := .agg Z.cells) rfl rfl (by kernel_rfl) (by kernel_rfl) (by kernel_rfl) (fun _ _ _ h => h) (Or.inl ⟨by rfl, fun W hW => exec_scene (.tmp 37) rfl rfl hW.sn⟩) HS ?_
            simp only [Act.put, List.setIfInBounds_toArray, List.set]
            refine take_at (i := 4) (d := some 39) (fuel := 15) (v := ?_) rfl rfl (by kernel_rfl) (by kernel_rfl) (by kernel_rfl) (fun _ _ _ h => h) (Or.inl ⟨by rfl, ?_⟩) HS ?_
            rotate_left
            · intro W hW
              go_simp
              try with_reducible rfl
            simp only [Act.put, List.setIfInBounds_toArray, List.set]
            refine wpAnyH_all (fuel := 14) (rs := [5]) (by kernel_rfl) (by simp) ?_
            intro i hi
            obtain rfl : i = 5 := by simpa using hi
            clear hi
            refine call_at (d := some 40) rfl rfl (by rfl) 30 #[.agg Z.cells, .int .i64 (c : Int)] (by kernel_rfl) ?_
            refine (about_any Z (c : Int) _).mono ?_
            rintro e x2 ⟨rfl, hb2⟩
            rw [HAB.out]
            have S2 := HS.call hb2
            clear hb2 HS
            refine ⟨_, rfl, S2, ?_⟩
            simp only [Act.put, List.setIfInBounds_toArray, List.set]
            refine take_at (i := 6) (d := some 41) (fuel := 13) (v := ?_) rfl rfl (by kernel_rfl) (by kernel_rfl) (by kernel_rfl) (fun _ _ _ h => h) (Or.inl ⟨by rfl, ?_⟩) S2 ?_
            rotate_left
            · intro W hW
              go_simp
              try with_reducible rfl
            simp only [Act.put, List.setIfInBounds_toArray, List.set]
            refine take_at (i := 7) (d := some 42) (fuel := 12) (v := ?_) rfl rfl (by kernel_rfl) (by kernel_rfl) (by kernel_rfl) (fun _ _ _ h => h) (Or.inl ⟨by rfl, ?_⟩) S2 ?_
            rotate_left
            · intro W hW
              go_simp
              try with_reducible rfl
            simp only [Act.put, List.setIfInBounds_toArray, List.set]
            refine take_at (i := 8) (d := some 43) (fuel := 11) (v := ?_) rfl rfl (by kernel_rfl) (by kernel_rfl) (by kernel_rfl) (fun _ _ _ h => h) (Or.inl ⟨by rfl, ?_⟩) S2 ?_
            rotate_left
            · intro W hW
              go_simp
              try with_reducible rfl
            simp only [Act.put, List.setIfInBounds_toArray, List.set]
            refine take_at (i := 9) (d := some 44) (fuel := 10) (v := ?_) rfl rfl (by kernel_rfl) (by kernel_rfl) (by kernel_rfl) (fun _ _ _ h => h) (Or.inl ⟨by rfl, ?_⟩) S2 ?_
            rotate_left
            · intro W hW
              go_simp
              try with_reducible rfl
            simp only [Act.put, List.setIfInBounds_toArray, List.set]
            refine take_at (i := 10) (d := some 45) (fuel := 9) (v := ?_) rfl rfl (by kernel_rfl) (by kernel_rfl) (by kernel_rfl) (fun _ _ _ h => h) (Or.inl ⟨by rfl, ?_⟩) S2 ?_
            rotate_left
            · intro W hW
              go_simp
              try with_reducible rfl
            simp only [Act.put, List.setIfInBounds_toArray, List.set]
            refine take_at (i := 11) (d := some 46) (fuel := 8) (v := ?_) rfl rfl (by kernel_rfl) (by kernel_rfl) (by kernel_rfl) (fun _ _ _ h => h) (Or.inl ⟨by rfl, ?_⟩) S2 ?_
            rotate_left
            · intro W hW
              go_simp
              try with_reducible rfl
            simp only [Act.put, List.setIfInBounds_toArray, List.set]
            refine take_at (i := 12) (d := some 47) (fuel := 7) (v := ?_) rfl rfl (by kernel_rfl) (by kernel_rfl) (by kernel_rfl) (fun _ _ _ h => h) (Or.inl ⟨by rfl, ?_⟩) S2 ?_
            rotate_left
            · intro W hW
              go_simp
              try with_reducible rfl
            simp only [Act.put, List.setIfInBounds_toArray, List.set]
            refine take_at (i := 13) (d := some 48) (fuel := 6) (v := ?_) rfl rfl (by kernel_rfl) (by kernel_rfl) (by kernel_rfl) (fun _ _ _ h => h) (Or.inl ⟨by rfl, ?_⟩) S2 ?_
            rotate_left
            · intro W hW
              go_simp
              try with_reducible rfl
            simp only [Act.put, List.setIfInBounds_toArray, List.set]
            refine take_at (i := 14) (d := some 49) (fuel := 5) (v := ?_) rfl rfl (by kernel_rfl) (by kernel_rfl) (by kernel_rfl) (fun _ _ _ h => h) (Or.inl ⟨by rfl, ?_⟩) S2 ?_
            rotate_left
            · intro W hW
              go_simp
              try with_reducible rfl
            simp only [Act.put, List.setIfInBounds_toArray, List.set]
            refine take_at (i := 15) (d := some 50) (fuel := 4) (v := ?_) rfl rfl (by kernel_rfl) (by kernel_rfl) (by kernel_rfl) (fun _ _ _ h => h) (Or.inl ⟨by rfl, ?_⟩) S2 ?_
            rotate_left
            · intro W hW
              have z3 := hW.sn.being c 3 hc (by omega)
              have z4 : W.cell? ⟨kx, 3, none⟩ = some (.int .i64 (Z.room k)) := by rw [cell_of_row _ _ _ _ _ _ hW.own]; rfl
              simp only [Ld.beingCell] at z3
              go_simp
              try with_reducible rfl
            simp only [Act.put, List.setIfInBounds_toArray, List.set]
            refine take_at (i := 16) (d := some 51) (fuel := 3) (v := ?_) rfl rfl (by kernel_rfl) (by kernel_rfl) (by kernel_rfl) (fun _ _ _ h => h) (Or.inl ⟨by rfl, ?_⟩) S2 ?_
            rotate_left
            · intro W hW
              go_simp
              try with_reducible rfl
            simp only [Act.put, List.setIfInBounds_toArray, List.set]
            refine take_at (i := 17) (d := some 52) (fuel := 2) (v := ?_) rfl rfl (by kernel_rfl) (by kernel_rfl) (by kernel_rfl) (fun _ _ _ h => h) (Or.inl ⟨by rfl, ?_⟩) S2 ?_
            rotate_left
            · intro W hW
              have z3 := hW.sn.being c 3 hc (by omega)
              have z4 : W.cell? ⟨kx, 3, none⟩ = some (.int .i64 (Z.room k)) := by rw [cell_of_row _ _ _ _ _ _ hW.own]; rfl
              simp only [Ld.beingCell] at z3
              go_simp
              try with_reducible rfl
            simp only [Act.put, List.setIfInBounds_toArray, List.set]
            refine take_at (i := 18) (d := some 53) (fuel := 1) (v := ?_) rfl rfl (by kernel_rfl) (by kernel_rfl) (by kernel_rfl) (fun _ _ _ h => h) (Or.inl ⟨by rfl, ?_⟩) S2 ?_
            rotate_left
            · intro W hW
              go_simp
              try with_reducible rfl
            simp only [Act.put, List.setIfInBounds_toArray, List.set]
            refine take_at (i := 19) (d := some 54) (fuel := 0) (v := ?_) rfl rfl (by kernel_rfl) (by kernel_rfl) (by kernel_rfl) (fun _ _ _ h => h) (Or.inl ⟨by rfl, ?_⟩) S2 ?_
            rotate_left
            · intro W hW
              go_simp
              try with_reducible rfl
            simp only [Act.put, List.setIfInBounds_toArray, List.set]
            refine wpAnyH_done (by kernel_rfl) ?_ _
            have T2 := True.intro
            have c5 := S2.sn.being k 5 hk (by omega)
            have f5 := S2.sn.soft (129 + k * 6 + 5)
            simp only [Ld.beingCell] at c5
            have X := hide (S2.sn.set (by omega) (Z.up_foe k hk 0))
            clear S2
            go_wp2
            go_roundw
            case rel => exact ⟨k + 1, by omega, by go_num, x, by rw [HN.out, HL.out, HE.out, List.append_nil]; exact X.out⟩
            case measure => simp [intOf]; omega
    · have hk6 : k = 6 := by omega
      subst hk6
      have S2 := R.out
      rw [HXX.out, HFF.out] at S2
      obtain ⟨v, hv, ho⟩ := S2.ex
      obtain ⟨av, cap, rfl⟩ := shapeE ho
      have hlt1 : w.heap.size + 1 < w1.heap.size := (Array.getElem?_eq_some_iff.1 D1.out.res).1
      have HR : Ht w1.heap.size L' (.slice av Fs.length cap) wr.drew := ⟨S2.land, by
        show wr.cell? _ = _
        rw [cell_of_row _ _ _ _ _ _ hv]; exact more_row L' [.int .i64 x] _⟩
      have RR : wr.drew.heap[w.heap.size + 1]? = some (.cells zl.cells 34 (0, 0)) := by
        show wr.heap[w.heap.size + 1]? = _
        rw [S2.low.block _ (by omega)]; exact D1.out.res
      have OW : wr.drew.ownsRow (w1.heap.size + 1) 52 16 (.slice av Fs.length cap) Fs.length (evc Fs) := ho
      have BB : Below w.heap.size w wr.drew := (D1.out.low.trans (S2.low.mono D1.out.low.size)).drew
      have hne : w1.heap.size ≠ w.heap.size + 1 := by omega
      clear S2 hv ho R D1 HRG
      go_wp2_with fail
      refine wp_region_held (S := Ht w1.heap.size L' (.slice av Fs.length cap)) (by kernel_rfl) ?_
      change wpAnyH _ _ _ _ _ _ _ _ wr.drew
      generalize wr.drew = W0 at *
      refine take_at (i := 0) (d := some 148) (fuel := 10) (v := ?_) rfl rfl (by kernel_rfl) (by kernel_rfl) (by kernel_rfl) (fun _ _ _ h => h) (Or.inl ⟨by rfl, ?_⟩) HR ?_
      rotate_left
      · intro W hW
        have hc := hW.row
        go_simp
        try with_reducible rfl
      simp only [Act.put, List.setIfInBounds_toArray, List.set]
      refine take_at (i := 1) (d := some 149) (fuel := 9) (v := ?_) rfl rfl (by kernel_rfl) (by kernel_rfl) (by kernel_rfl) (fun _ _ _ h => h) (Or.inl ⟨by rfl, ?_⟩) HR ?_
      rotate_left
      · intro W hW
        have hc := hW.row
        go_simp
        try with_reducible rfl
      simp only [Act.put, List.setIfInBounds_toArray, List.set]
      refine take_at (i := 2) (d := some 150) (fuel := 8) (v := ?_) rfl rfl (by kernel_rfl) (by kernel_rfl) (by kernel_rfl) (fun _ _ _ h => h) (Or.inl ⟨by rfl, ?_⟩) HR ?_
      rotate_left
      · intro W hW
        have hc := hW.row
        go_simp
        try with_reducible rfl
      simp only [Act.put, List.setIfInBounds_toArray, List.set]
      refine take_at (i := 3) (d := some 151) (fuel := 7) (v := .agg L'.cells) rfl rfl (by kernel_rfl) (by kernel_rfl) (by kernel_rfl) (fun _ _ _ h => h) (Or.inl ⟨by rfl, fun W hW => exec_land' (.tmp 150) rfl rfl hW.land⟩) HR ?_
      simp only [Act.put, List.setIfInBounds_toArray, List.set]
      refine take_at (i := 4) (d := some 152) (fuel := 6) (v := ?_) rfl rfl (by kernel_rfl) (by kernel_rfl) (by kernel_rfl) (fun _ _ _ h => h) (Or.inl ⟨by rfl, ?_⟩) HR ?_
      rotate_left
      · intro W hW
        have hc := hW.row
        go_simp
        try with_reducible rfl
      simp only [Act.put, List.setIfInBounds_toArray, List.set]
      refine take_at (i := 5) (d := some 153) (fuel := 5) (v := ?_) rfl rfl (by kernel_rfl) (by kernel_rfl) (by kernel_rfl) (fun _ _ _ h => h) (Or.inl ⟨by rfl, ?_⟩) HR ?_
      rotate_left
      · intro W hW
        have hc := hW.row
        go_simp
        try with_reducible rfl
      simp only [Act.put, List.setIfInBounds_toArray, List.set]
      refine take_at (i := 6) (d := some 154) (fuel := 4) (v := ?_) rfl rfl (by kernel_rfl) (by kernel_rfl) (by kernel_rfl) (fun _ _ _ h => h) (Or.inl ⟨by rfl, ?_⟩) HR ?_
      rotate_left
      · intro W hW
        have hc := hW.row
        go_simp
        try with_reducible rfl
      simp only [Act.put, List.setIfInBounds_toArray, List.set]
      refine take_at (i := 7) (d := some 155) (fuel := 3) (v := ?_) rfl rfl (by kernel_rfl) (by kernel_rfl) (by kernel_rfl) (fun _ _ _ h => h) (Or.inl ⟨by rfl, ?_⟩) HR ?_
      rotate_left
      · intro W hW
        have hc := hW.row
        go_simp
        try with_reducible rfl
      simp only [Act.put, List.setIfInBounds_toArray, List.set]
      refine wpAnyH_all (fuel := 2) (rs := [8]) (by kernel_rfl) (by simp) ?_
      intro i hi
      obtain rfl : i = 8 := by simpa using hi
      clear hi
      refine skip_at (d := none) rfl rfl (by rfl) (exec_storeland (.tmp 4) (.tmp 151) rfl (k := (w.heap.size + 1)) (L := L') (old := zl.cells) rfl rfl RR zl.size) ?_
      have HR2 := HR.setRow hne (cs := L'.cells)
      refine ⟨HR2, ?_⟩
      simp only [Act.put]
      refine take_at (i := 9) (d := some 5) (fuel := 1) (v := ?_) rfl rfl (by kernel_rfl) (by kernel_rfl) (by kernel_rfl) (fun _ _ _ h => h) (Or.inl ⟨by rfl, ?_⟩) HR2 ?_
      rotate_left
      · intro W hW
        go_simp
        try with_reducible rfl
      simp only [Act.put, List.setIfInBounds_toArray, List.set]
      refine take_at (i := 10) (d := some 6) (fuel := 0) (v := ?_) rfl rfl (by kernel_rfl) (by kernel_rfl) (by kernel_rfl) (fun _ _ _ h => h) (Or.inl ⟨by rfl, ?_⟩) HR2 ?_
      rotate_left
      · intro W hW
        go_simp
        try with_reducible rfl
      simp only [Act.put, List.setIfInBounds_toArray, List.set]
      refine wpAnyH_done (by kernel_rfl) ?_ _
      go_wp2
      refine bodyPost_ret (v := .tuple #[.agg L'.cells, .slice av Fs.length cap, .int .i64 0]) (res_land rfl _ _ (w.heap.size + 1) L' _ _ rfl rfl rfl (setRow_heap _ _ _ _ _ _ RR)) rfl ⟨_, rfl, own_setRow OW ⟨by omega, by omega⟩, below_setRow BB (by omega) _⟩
end Go.Proofs.YtaifjndkgfffpaaDoor
