/-
  It goes just where an exit leads that is not shut: the law's walk. Written by a program.
-/
import Derived.Test.YtaifjndkgfffpaaDoorRuActs
import Derived.Test.YtaifjndkgfffpaaDoorRuDo2
import Derived.Test.YtaifjndkgfffpaaDoorMgK
namespace Go.Proofs.YtaifjndkgfffpaaDoor
open Go.RowKit
set_option linter.unusedVariables false

theorem kpick_any (d : Int) (w : World) (hd : -9223372036854775808 ≤ d) (hd' : d ≤ 9223372036854775807) :
    Calls Tryd.prog 21 #[.int .i64 d, .int .i64 6] w fun e w' => ∃ k : Nat, k < 6 ∧ e = .returned (.int .i64 (k : Int)) ∧ w' = w := by
  have h1 : -6 < d.tmod 6 := Int.lt_tmod_of_pos d (by decide)
  have h2 : d.tmod 6 < 6 := Int.tmod_lt_of_pos d (by decide)
  by_cases h0 : d.tmod 6 < 0
  · have hw : wrap64 (d.tmod 6 + 6) = d.tmod 6 + 6 := by simp only [wrap64]; omega
    go_enter Tryd.func21, Tryd.ntmps21
    go_wp2
    go_ret
    exact ⟨(d.tmod 6 + 6).toNat, by omega, ret_int (by omega), rfl⟩
  · go_enter Tryd.func21, Tryd.ntmps21
    go_wp2
    go_ret
    exact ⟨(d.tmod 6).toNat, by omega, ret_int (by omega), rfl⟩

def goO (d : Nat) : Od := { verb := (d : Int), nth := 0, all := false, name := ⟨#[]⟩, second := ⟨#[]⟩, text := ⟨#[]⟩ }
theorem refuses_no {L : Ld} {b : Int} {d : Nat} (hd : d < 6) (h : refuses L b (d : Int) = 0) : goodL L = true ∧ amg b 6 = true ∧ L.here b.toNat = true := by
  unfold refuses at h
  cases hg : goodL L with
  | false => rw [if_pos hg] at h; simp at h
  | true =>
    rw [if_neg (by simp [hg])] at h
    cases ha : amg b 6 with
    | false => rw [if_pos ha] at h; simp at h
    | true =>
      rw [if_neg (by simp [ha])] at h
      cases hh : L.here b.toNat with
      | false => rw [if_pos hh] at h; simp at h
      | true => exact ⟨rfl, rfl, rfl⟩
theorem gone_cells (L : Ld) (b : Nat) (hb : b < 6) (r : Int) : ∀ n, n < 129 → (goneL L b r).cellAt n = L.cellAt n := by
  intro n hn
  unfold goneL
  rw [(L.setRoom b r).up_foe b hb 0 n (by omega), if_neg (by omega), L.up_room b hb r n (by omega), if_neg (by omega)]

set_option maxRecDepth 100000 in
set_option maxHeartbeats 4000000 in
theorem doorsW (L : Ld) (b d : Int) (wA : World) (hvb : Vb wA) (hwf : Wf L) (hn1 : ∀ r, r < 6 → (L.rname r).size ≤ 1048576) (hn2 : ∀ i, i < 9 → (L.tname i).size ≤ 1048576) (hn3 : ∀ b, b < 6 → (L.bname b).size ≤ 1048576) (hd : -9223372036854775808 ≤ d) (hd' : d ≤ 9223372036854775807) :
    Calls Tryd.prog 7 #[.agg L.cells, .int .i64 b, .int .i64 d] wA fun e wA' => e = .returned (.bool true) ∧ Below wA.heap.size wA wA' := by
  have hz := (zero_of_info Tryd.zLand).1
  have C0 := hide (cod_new wA L)
  have B0 := hide (below_box wA (.cells L.cells 34))
  have V0 := hide (hvb.alloc (.cells L.cells 34))
  have HN := hide (And.intro hn1 (And.intro hn2 hn3))
  clear hvb hn1 hn2 hn3
  go_enter Tryd.func7, Tryd.ntmps7
  go_wp2_with fail
  refine (kpick_any d _ hd hd').mono ?_
  rintro e w1 ⟨dd, hdd, rfl, hw1⟩
  rw [hw1]
  clear hw1 w1 hd hd'
  have hw0 : wrap64 (0 + (dd : Int)) = (dd : Int) := by simp only [wrap64]; omega
  go_wp2_with (refine wl_land (.tmp 3) rfl rfl _ L rfl C0.out ?_)
  by_cases hr0 : refuses L b (dd : Int) = 0
  · obtain ⟨hg, ha, hh⟩ := refuses_no hdd hr0
    obtain ⟨h0, h6⟩ := amg_pos ha
    obtain ⟨k, rfl⟩ := Int.eq_ofNat_of_zero_le h0
    have hk : k < 6 := by omega
    have hki : (k : Int) < 6 := by omega
    have hf := fine_of hg HN.out.1 HN.out.2.1 HN.out.2.2
    refine (do_any L (walkL L k dd) (walkE L k dd) k (goO dd) _ V0.out hwf hg hk (by simpa using hh) (by show (0 : Int) ≤ (dd : Int); omega) (by show (dd : Int) ≤ 20; omega) (fun w0 w hv hS => act_go hS hf hg hv k dd hk hdd (goO dd) rfl (by simp))).mono ?_
    rintro e w2 ⟨v, rfl, ho, hb2⟩
    obtain ⟨av, cap, rfl⟩ := shapeE ho
    obtain ⟨r, hr, er⟩ := hf.room k hk
    have C2 := hide ((C0.out.behind hb2 (Nat.le_refl _)).alloc (.cells (walkL L k dd).cells 34))
    have X2 := hide (cod_new w2 (walkL L k dd))
    have V2 := hide ((V0.out.below hb2 (Nat.le_refl _)).alloc (.cells (walkL L k dd).cells 34))
    have B2 := hide ((B0.out.trans (hb2.mono B0.out.size)).alloc (by have := B0.out.size; have := hb2.size; omega) (.cells (walkL L k dd).cells 34))
    have hfin := hf.exit r dd hr hdd
    have eE : exitL L k dd = L.exit r dd := by unfold exitL; rw [er]; rfl
    have eS : shutL L k dd = L.shut r dd := by unfold shutL; rw [er]; rfl
    have HER := hide er
    clear ho hb2 hf hg hh C0 B0 V0 er hr0 ha h0 h6 HN
    go_wp2_with (refine wl_new 34 (.tmp 7) (.tmp 20) rfl rfl _ _ rfl rfl rfl (by rw [Ld.size]; exact Tryd.sizeLand) (by rw [Ld.size, Ld.size]) (land_one _) ?_)
    refine (kacts_any _ V2.out).mono ?_
    rintro e w3 ⟨rfl, hb3⟩
    have C3 := hide (C2.out.behind hb3 (Nat.le_refl _))
    have X3 := hide (X2.out.behind hb3 (Nat.le_refl _))
    have BF := hide (B2.out.trans (hb3.mono B2.out.size))
    have c3 := C3.out.being k 3 hk (by omega)
    simp only [Ld.beingCell] at c3
    rw [HER.out] at c3
    have x3 := X3.out.being k 3 hk (by omega)
    simp only [Ld.beingCell] at x3
    have cE := C3.out.cell (r * 14 + 2 + dd) (by omega)
    have cS := C3.out.cell (r * 14 + 8 + dd) (by omega)
    have RE : Hid (L.roomCell r (2 + dd) = .int .i64 (L.exit r dd)) := by rw [Nat.add_comm]; simp [Ld.roomCell, hdd, Hid]
    have RS : Hid (L.roomCell r (8 + dd) = .bool (L.shut r dd)) := by rw [show 8 + dd = (dd + 6) + 2 by omega]; simp [Ld.roomCell, Hid]
    rw [show r * 14 + 2 + dd = r * 14 + (2 + dd) by omega, L.at_room r (2 + dd) hr (by omega), show r * 14 + (2 + dd) = r * 14 + 2 + dd by omega, RE.out] at cE
    rw [show r * 14 + 8 + dd = r * 14 + (8 + dd) by omega, L.at_room r (8 + dd) hr (by omega), show r * 14 + (8 + dd) = r * 14 + 8 + dd by omega, RS.out] at cS
    have hri : (r : Int) < 6 := by omega
    have hddi : (dd : Int) < 6 := by omega
    clear hb3 C2 X2 V2 B2
    by_cases hE : L.exit r dd = 0
    · have hL : walkL L k dd = L := by unfold walkL; rw [eE, if_pos hE]
      rw [hL, HER.out] at x3
      have hbE : (L.exit r dd == 0) = true := by simp [hE]
      clear hE hL eE eS hfin C3 X3
      go_wp2
      go_ret
      exact ⟨rfl, BF.out⟩
    · have hbE : (L.exit r dd == 0) = false := by simp [hE]
      by_cases hS : L.shut r dd = true
      · have hL : walkL L k dd = L := by unfold walkL; rw [eE, if_neg hE, eS, if_pos hS]
        rw [hL, HER.out] at x3
        rw [hS] at cS
        clear hE hL eE eS hfin C3 X3 hS
        go_wp2
        go_ret
        exact ⟨rfl, BF.out⟩
      · have hS' : L.shut r dd = false := by simpa using hS
        obtain ⟨t, ht, et⟩ : ∃ t : Nat, t < 6 ∧ L.exit r dd = (t : Int) + 1 := by
          rcases hfin with h | h
          · exact absurd h hE
          · exact h
        have hL : walkL L k dd = goneL L k (t : Int) := by unfold walkL; rw [eE, if_neg hE, eS, if_neg hS, et]; congr 1; omega
        rw [hS'] at cS
        rw [et] at cE
        rw [et] at hbE
        rw [hS'] at RS
        rw [et] at RE
        have MR : Hid ((goneL L k (t : Int)).room k = (t : Int)) := by simp [goneL, Ld.setRoom, Ld.setFoe, Hid]
        rw [hL, MR.out] at x3
        have hwr : wrap64 ((r : Int) + 1) = (r : Int) + 1 := by simp only [wrap64]; omega
        have hwt : wrap64 ((t : Int) + 1 - 1) = (t : Int) := by rw [show (t : Int) + 1 - 1 = (t : Int) by omega]; simp only [wrap64]; omega
        have hwt2 : wrap64 (t : Int) = (t : Int) := by simp only [wrap64]; omega
        have HW3 : Hid (IntKind.i64.wrap (t : Int) = (t : Int)) := (IntWalk.i64_left (t : Int)).trans hwt2
        by_cases htr : t = r
        · subst htr
          clear hE hL eE eS hfin C3 X3 hS hS' et MR RE RS
          go_wp2
          go_ret
          exact ⟨ret_bool (by simp), BF.out⟩
        · have hne : ((t : Int) == (r : Int)) = false := by simp; omega
          have HT := hide (things_same (gone_cells L k hk (t : Int)))
          have HM := hide (rooms_same (gone_cells L k hk (t : Int)))
          rw [hL] at X3
          have HS : Cod w3.drew wA.heap.size L ∧ Cod w3.drew w2.heap.size (goneL L k (t : Int)) := ⟨C3.out, X3.out⟩
          have hlE : decide (((t : Int) + 1) = 0) = false := by simp; omega
          clear hE hL eE eS hfin C3 X3 hS hS' et htr
          generalize goneL L k (t : Int) = M at *
          go_wp2_with fail
          refine wp_region_held (S := fun X => Cod X wA.heap.size L ∧ Cod X w2.heap.size M) (by kernel_rfl) ?_
          refine take_at (i := 0) (d := some 71) (fuel := 38) (v := ?_) rfl rfl (by kernel_rfl) (by kernel_rfl) (by kernel_rfl) (fun _ _ _ h => h) (Or.inl ⟨by rfl, ?_⟩) HS ?_
          rotate_left
          · intro W hW
            obtain ⟨hL, hM⟩ := hW
            have a3 := hM.being k 3 hk (by omega)
            have aE := hL.cell (r * 14 + 2 + dd) (by omega)
            have aS := hL.cell (r * 14 + 8 + dd) (by omega)
            rw [show r * 14 + 2 + dd = r * 14 + (2 + dd) by omega, L.at_room r (2 + dd) hr (by omega), show r * 14 + (2 + dd) = r * 14 + 2 + dd by omega, RE.out] at aE
            rw [show r * 14 + 8 + dd = r * 14 + (8 + dd) by omega, L.at_room r (8 + dd) hr (by omega), show r * 14 + (8 + dd) = r * 14 + 8 + dd by omega, RS.out] at aS
            simp only [Ld.beingCell] at a3
            rw [MR.out] at a3
            go_simp
            try with_reducible rfl
          simp only [Act.put, List.setIfInBounds_toArray, List.set]
          refine take_at (i := 1) (d := some 72) (fuel := 37) (v := ?_) rfl rfl (by kernel_rfl) (by kernel_rfl) (by kernel_rfl) (fun _ _ _ h => h) (Or.inl ⟨by rfl, ?_⟩) HS ?_
          rotate_left
          · intro W hW
            obtain ⟨hL, hM⟩ := hW
            have a3 := hM.being k 3 hk (by omega)
            have aE := hL.cell (r * 14 + 2 + dd) (by omega)
            have aS := hL.cell (r * 14 + 8 + dd) (by omega)
            rw [show r * 14 + 2 + dd = r * 14 + (2 + dd) by omega, L.at_room r (2 + dd) hr (by omega), show r * 14 + (2 + dd) = r * 14 + 2 + dd by omega, RE.out] at aE
            rw [show r * 14 + 8 + dd = r * 14 + (8 + dd) by omega, L.at_room r (8 + dd) hr (by omega), show r * 14 + (8 + dd) = r * 14 + 8 + dd by omega, RS.out] at aS
            simp only [Ld.beingCell] at a3
            rw [MR.out] at a3
            go_simp
            try with_reducible rfl
          simp only [Act.put, List.setIfInBounds_toArray, List.set]
          refine take_at (i := 2) (d := some 73) (fuel := 36) (v := ?_) rfl rfl (by kernel_rfl) (by kernel_rfl) (by kernel_rfl) (fun _ _ _ h => h) (Or.inl ⟨by rfl, ?_⟩) HS ?_
          rotate_left
          · intro W hW
            obtain ⟨hL, hM⟩ := hW
            have a3 := hM.being k 3 hk (by omega)
            have aE := hL.cell (r * 14 + 2 + dd) (by omega)
            have aS := hL.cell (r * 14 + 8 + dd) (by omega)
            rw [show r * 14 + 2 + dd = r * 14 + (2 + dd) by omega, L.at_room r (2 + dd) hr (by omega), show r * 14 + (2 + dd) = r * 14 + 2 + dd by omega, RE.out] at aE
            rw [show r * 14 + 8 + dd = r * 14 + (8 + dd) by omega, L.at_room r (8 + dd) hr (by omega), show r * 14 + (8 + dd) = r * 14 + 8 + dd by omega, RS.out] at aS
            simp only [Ld.beingCell] at a3
            rw [MR.out] at a3
            go_simp
            try with_reducible rfl
          simp only [Act.put, List.setIfInBounds_toArray, List.set]
          refine take_at (i := 3) (d := some 74) (fuel := 35) (v := ?_) rfl rfl (by kernel_rfl) (by kernel_rfl) (by kernel_rfl) (fun _ _ _ h => h) (Or.inl ⟨by rfl, ?_⟩) HS ?_
          rotate_left
          · intro W hW
            obtain ⟨hL, hM⟩ := hW
            have a3 := hM.being k 3 hk (by omega)
            have aE := hL.cell (r * 14 + 2 + dd) (by omega)
            have aS := hL.cell (r * 14 + 8 + dd) (by omega)
            rw [show r * 14 + 2 + dd = r * 14 + (2 + dd) by omega, L.at_room r (2 + dd) hr (by omega), show r * 14 + (2 + dd) = r * 14 + 2 + dd by omega, RE.out] at aE
            rw [show r * 14 + 8 + dd = r * 14 + (8 + dd) by omega, L.at_room r (8 + dd) hr (by omega), show r * 14 + (8 + dd) = r * 14 + 8 + dd by omega, RS.out] at aS
            simp only [Ld.beingCell] at a3
            rw [MR.out] at a3
            go_simp
            try with_reducible rfl
          simp only [Act.put, List.setIfInBounds_toArray, List.set]
          refine take_at (i := 4) (d := some 75) (fuel := 34) (v := ?_) rfl rfl (by kernel_rfl) (by kernel_rfl) (by kernel_rfl) (fun _ _ _ h => h) (Or.inl ⟨by rfl, ?_⟩) HS ?_
          rotate_left
          · intro W hW
            obtain ⟨hL, hM⟩ := hW
            have a3 := hM.being k 3 hk (by omega)
            have aE := hL.cell (r * 14 + 2 + dd) (by omega)
            have aS := hL.cell (r * 14 + 8 + dd) (by omega)
            rw [show r * 14 + 2 + dd = r * 14 + (2 + dd) by omega, L.at_room r (2 + dd) hr (by omega), show r * 14 + (2 + dd) = r * 14 + 2 + dd by omega, RE.out] at aE
            rw [show r * 14 + 8 + dd = r * 14 + (8 + dd) by omega, L.at_room r (8 + dd) hr (by omega), show r * 14 + (8 + dd) = r * 14 + 8 + dd by omega, RS.out] at aS
            simp only [Ld.beingCell] at a3
            rw [MR.out] at a3
            go_simp
            try with_reducible rfl
          simp only [Act.put, List.setIfInBounds_toArray, List.set]
          refine take_at (i := 5) (d := some 76) (fuel := 33) (v := ?_) rfl rfl (by kernel_rfl) (by kernel_rfl) (by kernel_rfl) (fun _ _ _ h => h) (Or.inl ⟨by rfl, ?_⟩) HS ?_
          rotate_left
          · intro W hW
            obtain ⟨hL, hM⟩ := hW
            have a3 := hM.being k 3 hk (by omega)
            have aE := hL.cell (r * 14 + 2 + dd) (by omega)
            have aS := hL.cell (r * 14 + 8 + dd) (by omega)
            rw [show r * 14 + 2 + dd = r * 14 + (2 + dd) by omega, L.at_room r (2 + dd) hr (by omega), show r * 14 + (2 + dd) = r * 14 + 2 + dd by omega, RE.out] at aE
            rw [show r * 14 + 8 + dd = r * 14 + (8 + dd) by omega, L.at_room r (8 + dd) hr (by omega), show r * 14 + (8 + dd) = r * 14 + 8 + dd by omega, RS.out] at aS
            simp only [Ld.beingCell] at a3
            rw [MR.out] at a3
            go_simp
            try with_reducible rfl
          simp only [Act.put, List.setIfInBounds_toArray, List.set]
          refine take_at (i := 6) (d := some 77) (fuel := 32) (v := ?_) rfl rfl (by kernel_rfl) (by kernel_rfl) (by kernel_rfl) (fun _ _ _ h => h) (Or.inl ⟨by rfl, ?_⟩) HS ?_
          rotate_left
          · intro W hW
            obtain ⟨hL, hM⟩ := hW
            have a3 := hM.being k 3 hk (by omega)
            have aE := hL.cell (r * 14 + 2 + dd) (by omega)
            have aS := hL.cell (r * 14 + 8 + dd) (by omega)
            rw [show r * 14 + 2 + dd = r * 14 + (2 + dd) by omega, L.at_room r (2 + dd) hr (by omega), show r * 14 + (2 + dd) = r * 14 + 2 + dd by omega, RE.out] at aE
            rw [show r * 14 + 8 + dd = r * 14 + (8 + dd) by omega, L.at_room r (8 + dd) hr (by omega), show r * 14 + (8 + dd) = r * 14 + 8 + dd by omega, RS.out] at aS
            simp only [Ld.beingCell] at a3
            rw [MR.out] at a3
            go_simp
            try with_reducible rfl
          simp only [Act.put, List.setIfInBounds_toArray, List.set]
          refine take_at (i := 7) (d := some 78) (fuel := 31) (v := ?_) rfl rfl (by kernel_rfl) (by kernel_rfl) (by kernel_rfl) (fun _ _ _ h => h) (Or.inl ⟨by rfl, ?_⟩) HS ?_
          rotate_left
          · intro W hW
            obtain ⟨hL, hM⟩ := hW
            have a3 := hM.being k 3 hk (by omega)
            have aE := hL.cell (r * 14 + 2 + dd) (by omega)
            have aS := hL.cell (r * 14 + 8 + dd) (by omega)
            rw [show r * 14 + 2 + dd = r * 14 + (2 + dd) by omega, L.at_room r (2 + dd) hr (by omega), show r * 14 + (2 + dd) = r * 14 + 2 + dd by omega, RE.out] at aE
            rw [show r * 14 + 8 + dd = r * 14 + (8 + dd) by omega, L.at_room r (8 + dd) hr (by omega), show r * 14 + (8 + dd) = r * 14 + 8 + dd by omega, RS.out] at aS
            simp only [Ld.beingCell] at a3
            rw [MR.out] at a3
            go_simp
            try with_reducible rfl
          simp only [Act.put, List.setIfInBounds_toArray, List.set]
          refine take_at (i := 8) (d := some 79) (fuel := 30) (v := ?_) rfl rfl (by kernel_rfl) (by kernel_rfl) (by kernel_rfl) (fun _ _ _ h => h) (Or.inl ⟨by rfl, ?_⟩) HS ?_
          rotate_left
          · intro W hW
            obtain ⟨hL, hM⟩ := hW
            have a3 := hM.being k 3 hk (by omega)
            have aE := hL.cell (r * 14 + 2 + dd) (by omega)
            have aS := hL.cell (r * 14 + 8 + dd) (by omega)
            rw [show r * 14 + 2 + dd = r * 14 + (2 + dd) by omega, L.at_room r (2 + dd) hr (by omega), show r * 14 + (2 + dd) = r * 14 + 2 + dd by omega, RE.out] at aE
            rw [show r * 14 + 8 + dd = r * 14 + (8 + dd) by omega, L.at_room r (8 + dd) hr (by omega), show r * 14 + (8 + dd) = r * 14 + 8 + dd by omega, RS.out] at aS
            simp only [Ld.beingCell] at a3
            rw [MR.out] at a3
            go_simp
            try with_reducible rfl
          simp only [Act.put, List.setIfInBounds_toArray, List.set]
          refine take_at (i := 9) (d := some 80) (fuel := 29) (v := ?_) rfl rfl (by kernel_rfl) (by kernel_rfl) (by kernel_rfl) (fun _ _ _ h => h) (Or.inl ⟨by rfl, ?_⟩) HS ?_
          rotate_left
          · intro W hW
            obtain ⟨hL, hM⟩ := hW
            have a3 := hM.being k 3 hk (by omega)
            have aE := hL.cell (r * 14 + 2 + dd) (by omega)
            have aS := hL.cell (r * 14 + 8 + dd) (by omega)
            rw [show r * 14 + 2 + dd = r * 14 + (2 + dd) by omega, L.at_room r (2 + dd) hr (by omega), show r * 14 + (2 + dd) = r * 14 + 2 + dd by omega, RE.out] at aE
            rw [show r * 14 + 8 + dd = r * 14 + (8 + dd) by omega, L.at_room r (8 + dd) hr (by omega), show r * 14 + (8 + dd) = r * 14 + 8 + dd by omega, RS.out] at aS
            simp only [Ld.beingCell] at a3
            rw [MR.out] at a3
            go_simp
            try with_reducible rfl
          simp only [Act.put, List.setIfInBounds_toArray, List.set]
          refine take_at (i := 10) (d := some 81) (fuel := 28) (v := ?_) rfl rfl (by kernel_rfl) (by kernel_rfl) (by kernel_rfl) (fun _ _ _ h => h) (Or.inl ⟨by rfl, ?_⟩) HS ?_
          rotate_left
          · intro W hW
            obtain ⟨hL, hM⟩ := hW
            have a3 := hM.being k 3 hk (by omega)
            have aE := hL.cell (r * 14 + 2 + dd) (by omega)
            have aS := hL.cell (r * 14 + 8 + dd) (by omega)
            rw [show r * 14 + 2 + dd = r * 14 + (2 + dd) by omega, L.at_room r (2 + dd) hr (by omega), show r * 14 + (2 + dd) = r * 14 + 2 + dd by omega, RE.out] at aE
            rw [show r * 14 + 8 + dd = r * 14 + (8 + dd) by omega, L.at_room r (8 + dd) hr (by omega), show r * 14 + (8 + dd) = r * 14 + 8 + dd by omega, RS.out] at aS
            simp only [Ld.beingCell] at a3
            rw [MR.out] at a3
            go_simp
            try with_reducible rfl
          simp only [Act.put, List.setIfInBounds_toArray, List.set]
          refine take_at (i := 11) (d := some 82) (fuel := 27) (v := ?_) rfl rfl (by kernel_rfl) (by kernel_rfl) (by kernel_rfl) (fun _ _ _ h => h) (Or.inl ⟨by rfl, ?_⟩) HS ?_
          rotate_left
          · intro W hW
            obtain ⟨hL, hM⟩ := hW
            have a3 := hM.being k 3 hk (by omega)
            have aE := hL.cell (r * 14 + 2 + dd) (by omega)
            have aS := hL.cell (r * 14 + 8 + dd) (by omega)
            rw [show r * 14 + 2 + dd = r * 14 + (2 + dd) by omega, L.at_room r (2 + dd) hr (by omega), show r * 14 + (2 + dd) = r * 14 + 2 + dd by omega, RE.out] at aE
            rw [show r * 14 + 8 + dd = r * 14 + (8 + dd) by omega, L.at_room r (8 + dd) hr (by omega), show r * 14 + (8 + dd) = r * 14 + 8 + dd by omega, RS.out] at aS
            simp only [Ld.beingCell] at a3
            rw [MR.out] at a3
            go_simp
            try with_reducible rfl
          simp only [Act.put, List.setIfInBounds_toArray, List.set]
          refine take_at (i := 12) (d := some 83) (fuel := 26) (v := ?_) rfl rfl (by kernel_rfl) (by kernel_rfl) (by kernel_rfl) (fun _ _ _ h => h) (Or.inl ⟨by rfl, ?_⟩) HS ?_
          rotate_left
          · intro W hW
            obtain ⟨hL, hM⟩ := hW
            have a3 := hM.being k 3 hk (by omega)
            have aE := hL.cell (r * 14 + 2 + dd) (by omega)
            have aS := hL.cell (r * 14 + 8 + dd) (by omega)
            rw [show r * 14 + 2 + dd = r * 14 + (2 + dd) by omega, L.at_room r (2 + dd) hr (by omega), show r * 14 + (2 + dd) = r * 14 + 2 + dd by omega, RE.out] at aE
            rw [show r * 14 + 8 + dd = r * 14 + (8 + dd) by omega, L.at_room r (8 + dd) hr (by omega), show r * 14 + (8 + dd) = r * 14 + 8 + dd by omega, RS.out] at aS
            simp only [Ld.beingCell] at a3
            rw [MR.out] at a3
            go_simp
            try with_reducible rfl
          simp only [Act.put, List.setIfInBounds_toArray, List.set]
          refine take_at (i := 13) (d := some 84) (fuel := 25) (v := .bool true) rfl rfl (by kernel_rfl) (by kernel_rfl) (by kernel_rfl) (fun _ _ _ h => h) (Or.inl ⟨by rfl, ?_⟩) HS ?_
          · intro W hW
            obtain ⟨hL, hM⟩ := hW
            have a3 := hM.being k 3 hk (by omega)
            have aE := hL.cell (r * 14 + 2 + dd) (by omega)
            have aS := hL.cell (r * 14 + 8 + dd) (by omega)
            rw [show r * 14 + 2 + dd = r * 14 + (2 + dd) by omega, L.at_room r (2 + dd) hr (by omega), show r * 14 + (2 + dd) = r * 14 + 2 + dd by omega, RE.out] at aE
            rw [show r * 14 + 8 + dd = r * 14 + (8 + dd) by omega, L.at_room r (8 + dd) hr (by omega), show r * 14 + (8 + dd) = r * 14 + 8 + dd by omega, RS.out] at aS
            simp only [Ld.beingCell] at a3
            rw [MR.out] at a3
            go_simp
            try simp
            try with_reducible rfl
            try exact HW3.out.symm
          simp only [Act.put, List.setIfInBounds_toArray, List.set]
          refine take_at (i := 14) (d := some 85) (fuel := 24) (v := ?_) rfl rfl (by kernel_rfl) (by kernel_rfl) (by kernel_rfl) (fun _ _ _ h => h) (Or.inl ⟨by rfl, ?_⟩) HS ?_
          rotate_left
          · intro W hW
            obtain ⟨hL, hM⟩ := hW
            have a3 := hM.being k 3 hk (by omega)
            have aE := hL.cell (r * 14 + 2 + dd) (by omega)
            have aS := hL.cell (r * 14 + 8 + dd) (by omega)
            rw [show r * 14 + 2 + dd = r * 14 + (2 + dd) by omega, L.at_room r (2 + dd) hr (by omega), show r * 14 + (2 + dd) = r * 14 + 2 + dd by omega, RE.out] at aE
            rw [show r * 14 + 8 + dd = r * 14 + (8 + dd) by omega, L.at_room r (8 + dd) hr (by omega), show r * 14 + (8 + dd) = r * 14 + 8 + dd by omega, RS.out] at aS
            simp only [Ld.beingCell] at a3
            rw [MR.out] at a3
            go_simp
            try with_reducible rfl
          simp only [Act.put, List.setIfInBounds_toArray, List.set]
          refine take_at (i := 15) (d := some 86) (fuel := 23) (v := ?_) rfl rfl (by kernel_rfl) (by kernel_rfl) (by kernel_rfl) (fun _ _ _ h => h) (Or.inl ⟨by rfl, ?_⟩) HS ?_
          rotate_left
          · intro W hW
            obtain ⟨hL, hM⟩ := hW
            have a3 := hM.being k 3 hk (by omega)
            have aE := hL.cell (r * 14 + 2 + dd) (by omega)
            have aS := hL.cell (r * 14 + 8 + dd) (by omega)
            rw [show r * 14 + 2 + dd = r * 14 + (2 + dd) by omega, L.at_room r (2 + dd) hr (by omega), show r * 14 + (2 + dd) = r * 14 + 2 + dd by omega, RE.out] at aE
            rw [show r * 14 + 8 + dd = r * 14 + (8 + dd) by omega, L.at_room r (8 + dd) hr (by omega), show r * 14 + (8 + dd) = r * 14 + 8 + dd by omega, RS.out] at aS
            simp only [Ld.beingCell] at a3
            rw [MR.out] at a3
            go_simp
            try with_reducible rfl
          simp only [Act.put, List.setIfInBounds_toArray, List.set]
          refine take_at (i := 16) (d := some 87) (fuel := 22) (v := ?_) rfl rfl (by kernel_rfl) (by kernel_rfl) (by kernel_rfl) (fun _ _ _ h => h) (Or.inl ⟨by rfl, ?_⟩) HS ?_
          rotate_left
          · intro W hW
            obtain ⟨hL, hM⟩ := hW
            have a3 := hM.being k 3 hk (by omega)
            have aE := hL.cell (r * 14 + 2 + dd) (by omega)
            have aS := hL.cell (r * 14 + 8 + dd) (by omega)
            rw [show r * 14 + 2 + dd = r * 14 + (2 + dd) by omega, L.at_room r (2 + dd) hr (by omega), show r * 14 + (2 + dd) = r * 14 + 2 + dd by omega, RE.out] at aE
            rw [show r * 14 + 8 + dd = r * 14 + (8 + dd) by omega, L.at_room r (8 + dd) hr (by omega), show r * 14 + (8 + dd) = r * 14 + 8 + dd by omega, RS.out] at aS
            simp only [Ld.beingCell] at a3
            rw [MR.out] at a3
            go_simp
            try with_reducible rfl
          simp only [Act.put, List.setIfInBounds_toArray, List.set]
          refine take_at (i := 17) (d := some 88) (fuel := 21) (v := ?_) rfl rfl (by kernel_rfl) (by kernel_rfl) (by kernel_rfl) (fun _ _ _ h => h) (Or.inl ⟨by rfl, ?_⟩) HS ?_
          rotate_left
          · intro W hW
            obtain ⟨hL, hM⟩ := hW
            have a3 := hM.being k 3 hk (by omega)
            have aE := hL.cell (r * 14 + 2 + dd) (by omega)
            have aS := hL.cell (r * 14 + 8 + dd) (by omega)
            rw [show r * 14 + 2 + dd = r * 14 + (2 + dd) by omega, L.at_room r (2 + dd) hr (by omega), show r * 14 + (2 + dd) = r * 14 + 2 + dd by omega, RE.out] at aE
            rw [show r * 14 + 8 + dd = r * 14 + (8 + dd) by omega, L.at_room r (8 + dd) hr (by omega), show r * 14 + (8 + dd) = r * 14 + 8 + dd by omega, RS.out] at aS
            simp only [Ld.beingCell] at a3
            rw [MR.out] at a3
            go_simp
            try with_reducible rfl
          simp only [Act.put, List.setIfInBounds_toArray, List.set]
          refine take_at (i := 18) (d := some 89) (fuel := 20) (v := ?_) rfl rfl (by kernel_rfl) (by kernel_rfl) (by kernel_rfl) (fun _ _ _ h => h) (Or.inl ⟨by rfl, ?_⟩) HS ?_
          rotate_left
          · intro W hW
            obtain ⟨hL, hM⟩ := hW
            have a3 := hM.being k 3 hk (by omega)
            have aE := hL.cell (r * 14 + 2 + dd) (by omega)
            have aS := hL.cell (r * 14 + 8 + dd) (by omega)
            rw [show r * 14 + 2 + dd = r * 14 + (2 + dd) by omega, L.at_room r (2 + dd) hr (by omega), show r * 14 + (2 + dd) = r * 14 + 2 + dd by omega, RE.out] at aE
            rw [show r * 14 + 8 + dd = r * 14 + (8 + dd) by omega, L.at_room r (8 + dd) hr (by omega), show r * 14 + (8 + dd) = r * 14 + 8 + dd by omega, RS.out] at aS
            simp only [Ld.beingCell] at a3
            rw [MR.out] at a3
            go_simp
            try with_reducible rfl
          simp only [Act.put, List.setIfInBounds_toArray, List.set]
          refine take_at (i := 19) (d := some 90) (fuel := 19) (v := ?_) rfl rfl (by kernel_rfl) (by kernel_rfl) (by kernel_rfl) (fun _ _ _ h => h) (Or.inl ⟨by rfl, ?_⟩) HS ?_
          rotate_left
          · intro W hW
            obtain ⟨hL, hM⟩ := hW
            have a3 := hM.being k 3 hk (by omega)
            have aE := hL.cell (r * 14 + 2 + dd) (by omega)
            have aS := hL.cell (r * 14 + 8 + dd) (by omega)
            rw [show r * 14 + 2 + dd = r * 14 + (2 + dd) by omega, L.at_room r (2 + dd) hr (by omega), show r * 14 + (2 + dd) = r * 14 + 2 + dd by omega, RE.out] at aE
            rw [show r * 14 + 8 + dd = r * 14 + (8 + dd) by omega, L.at_room r (8 + dd) hr (by omega), show r * 14 + (8 + dd) = r * 14 + 8 + dd by omega, RS.out] at aS
            simp only [Ld.beingCell] at a3
            rw [MR.out] at a3
            go_simp
            try with_reducible rfl
          simp only [Act.put, List.setIfInBounds_toArray, List.set]
          refine take_at (i := 20) (d := some 91) (fuel := 18) (v := ?_) rfl rfl (by kernel_rfl) (by kernel_rfl) (by kernel_rfl) (fun _ _ _ h => h) (Or.inl ⟨by rfl, ?_⟩) HS ?_
          rotate_left
          · intro W hW
            obtain ⟨hL, hM⟩ := hW
            have a3 := hM.being k 3 hk (by omega)
            have aE := hL.cell (r * 14 + 2 + dd) (by omega)
            have aS := hL.cell (r * 14 + 8 + dd) (by omega)
            rw [show r * 14 + 2 + dd = r * 14 + (2 + dd) by omega, L.at_room r (2 + dd) hr (by omega), show r * 14 + (2 + dd) = r * 14 + 2 + dd by omega, RE.out] at aE
            rw [show r * 14 + 8 + dd = r * 14 + (8 + dd) by omega, L.at_room r (8 + dd) hr (by omega), show r * 14 + (8 + dd) = r * 14 + 8 + dd by omega, RS.out] at aS
            simp only [Ld.beingCell] at a3
            rw [MR.out] at a3
            go_simp
            try with_reducible rfl
          simp only [Act.put, List.setIfInBounds_toArray, List.set]
          refine take_at (i := 21) (d := some 92) (fuel := 17) (v := ?_) rfl rfl (by kernel_rfl) (by kernel_rfl) (by kernel_rfl) (fun _ _ _ h => h) (Or.inl ⟨by rfl, ?_⟩) HS ?_
          rotate_left
          · intro W hW
            obtain ⟨hL, hM⟩ := hW
            have a3 := hM.being k 3 hk (by omega)
            have aE := hL.cell (r * 14 + 2 + dd) (by omega)
            have aS := hL.cell (r * 14 + 8 + dd) (by omega)
            rw [show r * 14 + 2 + dd = r * 14 + (2 + dd) by omega, L.at_room r (2 + dd) hr (by omega), show r * 14 + (2 + dd) = r * 14 + 2 + dd by omega, RE.out] at aE
            rw [show r * 14 + 8 + dd = r * 14 + (8 + dd) by omega, L.at_room r (8 + dd) hr (by omega), show r * 14 + (8 + dd) = r * 14 + 8 + dd by omega, RS.out] at aS
            simp only [Ld.beingCell] at a3
            rw [MR.out] at a3
            go_simp
            try with_reducible rfl
          simp only [Act.put, List.setIfInBounds_toArray, List.set]
          refine take_at (i := 22) (d := some 93) (fuel := 16) (v := ?_) rfl rfl (by kernel_rfl) (by kernel_rfl) (by kernel_rfl) (fun _ _ _ h => h) (Or.inl ⟨by rfl, ?_⟩) HS ?_
          rotate_left
          · intro W hW
            obtain ⟨hL, hM⟩ := hW
            have a3 := hM.being k 3 hk (by omega)
            have aE := hL.cell (r * 14 + 2 + dd) (by omega)
            have aS := hL.cell (r * 14 + 8 + dd) (by omega)
            rw [show r * 14 + 2 + dd = r * 14 + (2 + dd) by omega, L.at_room r (2 + dd) hr (by omega), show r * 14 + (2 + dd) = r * 14 + 2 + dd by omega, RE.out] at aE
            rw [show r * 14 + 8 + dd = r * 14 + (8 + dd) by omega, L.at_room r (8 + dd) hr (by omega), show r * 14 + (8 + dd) = r * 14 + 8 + dd by omega, RS.out] at aS
            simp only [Ld.beingCell] at a3
            rw [MR.out] at a3
            go_simp
            try with_reducible rfl
          simp only [Act.put, List.setIfInBounds_toArray, List.set]
          refine take_at (i := 23) (d := some 94) (fuel := 15) (v := ?_) rfl rfl (by kernel_rfl) (by kernel_rfl) (by kernel_rfl) (fun _ _ _ h => h) (Or.inl ⟨by rfl, ?_⟩) HS ?_
          rotate_left
          · intro W hW
            obtain ⟨hL, hM⟩ := hW
            have a3 := hM.being k 3 hk (by omega)
            have aE := hL.cell (r * 14 + 2 + dd) (by omega)
            have aS := hL.cell (r * 14 + 8 + dd) (by omega)
            rw [show r * 14 + 2 + dd = r * 14 + (2 + dd) by omega, L.at_room r (2 + dd) hr (by omega), show r * 14 + (2 + dd) = r * 14 + 2 + dd by omega, RE.out] at aE
            rw [show r * 14 + 8 + dd = r * 14 + (8 + dd) by omega, L.at_room r (8 + dd) hr (by omega), show r * 14 + (8 + dd) = r * 14 + 8 + dd by omega, RS.out] at aS
            simp only [Ld.beingCell] at a3
            rw [MR.out] at a3
            go_simp
            try with_reducible rfl
          simp only [Act.put, List.setIfInBounds_toArray, List.set]
          refine take_at (i := 24) (d := some 95) (fuel := 14) (v := ?_) rfl rfl (by kernel_rfl) (by kernel_rfl) (by kernel_rfl) (fun _ _ _ h => h) (Or.inl ⟨by rfl, ?_⟩) HS ?_
          rotate_left
          · intro W hW
            obtain ⟨hL, hM⟩ := hW
            have a3 := hM.being k 3 hk (by omega)
            have aE := hL.cell (r * 14 + 2 + dd) (by omega)
            have aS := hL.cell (r * 14 + 8 + dd) (by omega)
            rw [show r * 14 + 2 + dd = r * 14 + (2 + dd) by omega, L.at_room r (2 + dd) hr (by omega), show r * 14 + (2 + dd) = r * 14 + 2 + dd by omega, RE.out] at aE
            rw [show r * 14 + 8 + dd = r * 14 + (8 + dd) by omega, L.at_room r (8 + dd) hr (by omega), show r * 14 + (8 + dd) = r * 14 + 8 + dd by omega, RS.out] at aS
            simp only [Ld.beingCell] at a3
            rw [MR.out] at a3
            go_simp
            try with_reducible rfl
          simp only [Act.put, List.setIfInBounds_toArray, List.set]
          refine take_at (i := 25) (d := some 96) (fuel := 13) (v := ?_) rfl rfl (by kernel_rfl) (by kernel_rfl) (by kernel_rfl) (fun _ _ _ h => h) (Or.inl ⟨by rfl, ?_⟩) HS ?_
          rotate_left
          · intro W hW
            obtain ⟨hL, hM⟩ := hW
            have a3 := hM.being k 3 hk (by omega)
            have aE := hL.cell (r * 14 + 2 + dd) (by omega)
            have aS := hL.cell (r * 14 + 8 + dd) (by omega)
            rw [show r * 14 + 2 + dd = r * 14 + (2 + dd) by omega, L.at_room r (2 + dd) hr (by omega), show r * 14 + (2 + dd) = r * 14 + 2 + dd by omega, RE.out] at aE
            rw [show r * 14 + 8 + dd = r * 14 + (8 + dd) by omega, L.at_room r (8 + dd) hr (by omega), show r * 14 + (8 + dd) = r * 14 + 8 + dd by omega, RS.out] at aS
            simp only [Ld.beingCell] at a3
            rw [MR.out] at a3
            go_simp
            try with_reducible rfl
          simp only [Act.put, List.setIfInBounds_toArray, List.set]
          refine take_at (i := 26) (d := some 97) (fuel := 12) (v := .agg L.thingsA) rfl rfl (by kernel_rfl) (by kernel_rfl) (by kernel_rfl) (fun _ _ _ h => h) (Or.inl ⟨by rfl, fun W hW => exec_things HT.out (.tmp 96) rfl w2.heap.size rfl hW.2⟩) HS ?_
          simp only [Act.put, List.setIfInBounds_toArray, List.set]
          refine take_at (i := 27) (d := some 98) (fuel := 11) (v := ?_) rfl rfl (by kernel_rfl) (by kernel_rfl) (by kernel_rfl) (fun _ _ _ h => h) (Or.inl ⟨by rfl, ?_⟩) HS ?_
          rotate_left
          · intro W hW
            obtain ⟨hL, hM⟩ := hW
            have a3 := hM.being k 3 hk (by omega)
            have aE := hL.cell (r * 14 + 2 + dd) (by omega)
            have aS := hL.cell (r * 14 + 8 + dd) (by omega)
            rw [show r * 14 + 2 + dd = r * 14 + (2 + dd) by omega, L.at_room r (2 + dd) hr (by omega), show r * 14 + (2 + dd) = r * 14 + 2 + dd by omega, RE.out] at aE
            rw [show r * 14 + 8 + dd = r * 14 + (8 + dd) by omega, L.at_room r (8 + dd) hr (by omega), show r * 14 + (8 + dd) = r * 14 + 8 + dd by omega, RS.out] at aS
            simp only [Ld.beingCell] at a3
            rw [MR.out] at a3
            go_simp
            try with_reducible rfl
          simp only [Act.put, List.setIfInBounds_toArray, List.set]
          refine take_at (i := 28) (d := some 99) (fuel := 10) (v := .agg L.thingsA) rfl rfl (by kernel_rfl) (by kernel_rfl) (by kernel_rfl) (fun _ _ _ h => h) (Or.inl ⟨by rfl, fun W hW => exec_things rfl (.tmp 98) rfl wA.heap.size rfl hW.1⟩) HS ?_
          simp only [Act.put, List.setIfInBounds_toArray, List.set]
          refine take_at (i := 29) (d := some 100) (fuel := 9) (v := .bool true) rfl rfl (by kernel_rfl) (by kernel_rfl) (by kernel_rfl) (fun _ _ _ h => h) (Or.inl ⟨by rfl, fun W hW => exec_eqthings (.tmp 97) (.tmp 99) 29 rfl rfl rfl⟩) HS ?_
          simp only [Act.put, List.setIfInBounds_toArray, List.set]
          refine take_at (i := 30) (d := some 101) (fuel := 8) (v := ?_) rfl rfl (by kernel_rfl) (by kernel_rfl) (by kernel_rfl) (fun _ _ _ h => h) (Or.inl ⟨by rfl, ?_⟩) HS ?_
          rotate_left
          · intro W hW
            obtain ⟨hL, hM⟩ := hW
            have a3 := hM.being k 3 hk (by omega)
            have aE := hL.cell (r * 14 + 2 + dd) (by omega)
            have aS := hL.cell (r * 14 + 8 + dd) (by omega)
            rw [show r * 14 + 2 + dd = r * 14 + (2 + dd) by omega, L.at_room r (2 + dd) hr (by omega), show r * 14 + (2 + dd) = r * 14 + 2 + dd by omega, RE.out] at aE
            rw [show r * 14 + 8 + dd = r * 14 + (8 + dd) by omega, L.at_room r (8 + dd) hr (by omega), show r * 14 + (8 + dd) = r * 14 + 8 + dd by omega, RS.out] at aS
            simp only [Ld.beingCell] at a3
            rw [MR.out] at a3
            go_simp
            try with_reducible rfl
          simp only [Act.put, List.setIfInBounds_toArray, List.set]
          refine take_at (i := 31) (d := some 102) (fuel := 7) (v := ?_) rfl rfl (by kernel_rfl) (by kernel_rfl) (by kernel_rfl) (fun _ _ _ h => h) (Or.inl ⟨by rfl, ?_⟩) HS ?_
          rotate_left
          · intro W hW
            obtain ⟨hL, hM⟩ := hW
            have a3 := hM.being k 3 hk (by omega)
            have aE := hL.cell (r * 14 + 2 + dd) (by omega)
            have aS := hL.cell (r * 14 + 8 + dd) (by omega)
            rw [show r * 14 + 2 + dd = r * 14 + (2 + dd) by omega, L.at_room r (2 + dd) hr (by omega), show r * 14 + (2 + dd) = r * 14 + 2 + dd by omega, RE.out] at aE
            rw [show r * 14 + 8 + dd = r * 14 + (8 + dd) by omega, L.at_room r (8 + dd) hr (by omega), show r * 14 + (8 + dd) = r * 14 + 8 + dd by omega, RS.out] at aS
            simp only [Ld.beingCell] at a3
            rw [MR.out] at a3
            go_simp
            try with_reducible rfl
          simp only [Act.put, List.setIfInBounds_toArray, List.set]
          refine take_at (i := 32) (d := some 103) (fuel := 6) (v := ?_) rfl rfl (by kernel_rfl) (by kernel_rfl) (by kernel_rfl) (fun _ _ _ h => h) (Or.inl ⟨by rfl, ?_⟩) HS ?_
          rotate_left
          · intro W hW
            obtain ⟨hL, hM⟩ := hW
            have a3 := hM.being k 3 hk (by omega)
            have aE := hL.cell (r * 14 + 2 + dd) (by omega)
            have aS := hL.cell (r * 14 + 8 + dd) (by omega)
            rw [show r * 14 + 2 + dd = r * 14 + (2 + dd) by omega, L.at_room r (2 + dd) hr (by omega), show r * 14 + (2 + dd) = r * 14 + 2 + dd by omega, RE.out] at aE
            rw [show r * 14 + 8 + dd = r * 14 + (8 + dd) by omega, L.at_room r (8 + dd) hr (by omega), show r * 14 + (8 + dd) = r * 14 + 8 + dd by omega, RS.out] at aS
            simp only [Ld.beingCell] at a3
            rw [MR.out] at a3
            go_simp
            try with_reducible rfl
          simp only [Act.put, List.setIfInBounds_toArray, List.set]
          refine take_at (i := 33) (d := some 104) (fuel := 5) (v := .agg L.roomsA) rfl rfl (by kernel_rfl) (by kernel_rfl) (by kernel_rfl) (fun _ _ _ h => h) (Or.inl ⟨by rfl, fun W hW => exec_rooms HM.out (.tmp 103) rfl w2.heap.size rfl hW.2⟩) HS ?_
          simp only [Act.put, List.setIfInBounds_toArray, List.set]
          refine take_at (i := 34) (d := some 105) (fuel := 4) (v := ?_) rfl rfl (by kernel_rfl) (by kernel_rfl) (by kernel_rfl) (fun _ _ _ h => h) (Or.inl ⟨by rfl, ?_⟩) HS ?_
          rotate_left
          · intro W hW
            obtain ⟨hL, hM⟩ := hW
            have a3 := hM.being k 3 hk (by omega)
            have aE := hL.cell (r * 14 + 2 + dd) (by omega)
            have aS := hL.cell (r * 14 + 8 + dd) (by omega)
            rw [show r * 14 + 2 + dd = r * 14 + (2 + dd) by omega, L.at_room r (2 + dd) hr (by omega), show r * 14 + (2 + dd) = r * 14 + 2 + dd by omega, RE.out] at aE
            rw [show r * 14 + 8 + dd = r * 14 + (8 + dd) by omega, L.at_room r (8 + dd) hr (by omega), show r * 14 + (8 + dd) = r * 14 + 8 + dd by omega, RS.out] at aS
            simp only [Ld.beingCell] at a3
            rw [MR.out] at a3
            go_simp
            try with_reducible rfl
          simp only [Act.put, List.setIfInBounds_toArray, List.set]
          refine take_at (i := 35) (d := some 106) (fuel := 3) (v := .agg L.roomsA) rfl rfl (by kernel_rfl) (by kernel_rfl) (by kernel_rfl) (fun _ _ _ h => h) (Or.inl ⟨by rfl, fun W hW => exec_rooms rfl (.tmp 105) rfl wA.heap.size rfl hW.1⟩) HS ?_
          simp only [Act.put, List.setIfInBounds_toArray, List.set]
          refine take_at (i := 36) (d := some 107) (fuel := 2) (v := .bool true) rfl rfl (by kernel_rfl) (by kernel_rfl) (by kernel_rfl) (fun _ _ _ h => h) (Or.inl ⟨by rfl, fun W hW => exec_eqrooms (.tmp 104) (.tmp 106) 26 rfl rfl rfl⟩) HS ?_
          simp only [Act.put, List.setIfInBounds_toArray, List.set]
          refine take_at (i := 37) (d := some 108) (fuel := 1) (v := ?_) rfl rfl (by kernel_rfl) (by kernel_rfl) (by kernel_rfl) (fun _ _ _ h => h) (Or.inl ⟨by rfl, ?_⟩) HS ?_
          rotate_left
          · intro W hW
            obtain ⟨hL, hM⟩ := hW
            have a3 := hM.being k 3 hk (by omega)
            have aE := hL.cell (r * 14 + 2 + dd) (by omega)
            have aS := hL.cell (r * 14 + 8 + dd) (by omega)
            rw [show r * 14 + 2 + dd = r * 14 + (2 + dd) by omega, L.at_room r (2 + dd) hr (by omega), show r * 14 + (2 + dd) = r * 14 + 2 + dd by omega, RE.out] at aE
            rw [show r * 14 + 8 + dd = r * 14 + (8 + dd) by omega, L.at_room r (8 + dd) hr (by omega), show r * 14 + (8 + dd) = r * 14 + 8 + dd by omega, RS.out] at aS
            simp only [Ld.beingCell] at a3
            rw [MR.out] at a3
            go_simp
            try with_reducible rfl
          simp only [Act.put, List.setIfInBounds_toArray, List.set]
          refine take_at (i := 38) (d := some 6) (fuel := 0) (v := ?_) rfl rfl (by kernel_rfl) (by kernel_rfl) (by kernel_rfl) (fun _ _ _ h => h) (Or.inl ⟨by rfl, ?_⟩) HS ?_
          rotate_left
          · intro W hW
            obtain ⟨hL, hM⟩ := hW
            have a3 := hM.being k 3 hk (by omega)
            have aE := hL.cell (r * 14 + 2 + dd) (by omega)
            have aS := hL.cell (r * 14 + 8 + dd) (by omega)
            rw [show r * 14 + 2 + dd = r * 14 + (2 + dd) by omega, L.at_room r (2 + dd) hr (by omega), show r * 14 + (2 + dd) = r * 14 + 2 + dd by omega, RE.out] at aE
            rw [show r * 14 + 8 + dd = r * 14 + (8 + dd) by omega, L.at_room r (8 + dd) hr (by omega), show r * 14 + (8 + dd) = r * 14 + 8 + dd by omega, RS.out] at aS
            simp only [Ld.beingCell] at a3
            rw [MR.out] at a3
            go_simp
            try with_reducible rfl
          simp only [Act.put, List.setIfInBounds_toArray, List.set]
          refine wpAnyH_done (by kernel_rfl) ?_ _
          go_wp2
          go_ret
          exact ⟨rfl, BF.out.drew⟩
  · have hb1 : (refuses L b (dd : Int) != 0) = true := by simpa using hr0
    refine (do_bad L b (goO dd) _ hwf hr0).mono ?_
    rintro e w2 ⟨rfl, hb2⟩
    have V2 := hide ((V0.out.below hb2 (Nat.le_refl _)).alloc (.cells L.cells 34))
    have B2 := hide ((B0.out.trans (hb2.mono B0.out.size)).alloc (by have := B0.out.size; have := hb2.size; omega) (.cells L.cells 34))
    have hb1' : (refuses L b (goO dd).verb != 0) = true := hb1
    clear hb2 C0 B0 V0 hr0 HN hb1
    generalize refuses L b (goO dd).verb = c at *
    go_wp2_with (refine wl_new 34 (.tmp 7) (.tmp 20) rfl rfl _ _ rfl rfl rfl (by rw [Ld.size]; exact Tryd.sizeLand) (by rw [Ld.size, Ld.size]) (land_one _) ?_)
    refine (kacts_any _ V2.out).mono ?_
    rintro e w3 ⟨rfl, hb3⟩
    have BF := hide (B2.out.trans (hb3.mono B2.out.size))
    clear hb3
    go_wp2
    go_ret
    exact ⟨rfl, BF.out⟩
end Go.Proofs.YtaifjndkgfffpaaDoor
