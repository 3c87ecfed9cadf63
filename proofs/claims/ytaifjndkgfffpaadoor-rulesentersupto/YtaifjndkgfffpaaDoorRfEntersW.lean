/-
  RulesEnters: what it answers.
-/
import Derived.Test.YtaifjndkgfffpaaDoorRfEnter
import Derived.Test.YtaifjndkgfffpaaDoorRuEnter2
import Derived.Test.YtaifjndkgfffpaaDoorRfPure
import Derived.Test.YtaifjndkgfffpaaDoorRfSame
import Derived.Test.YtaifjndkgfffpaaDoorRfActs
namespace Go.Proofs.YtaifjndkgfffpaaDoor
open Go.RowKit
set_option linter.unusedVariables false

theorem vac_here {L : Ld} {k : Nat} (h : vacA L = ((k : Int), true)) : k < 6 ∧ L.here k = false := by
  unfold vacA at h
  split at h
  · rename_i h2; simp at h; have : k = 2 := by omega
    subst this; exact ⟨by omega, h2⟩
  · split at h
    · rename_i _ h2; simp at h; have : k = 3 := by omega
      subst this; exact ⟨by omega, h2⟩
    · split at h
      · rename_i _ _ h2; simp at h; have : k = 4 := by omega
        subst this; exact ⟨by omega, h2⟩
      · split at h
        · rename_i _ _ _ h2; simp at h; have : k = 5 := by omega
          subst this; exact ⟨by omega, h2⟩
        · simp at h
theorem named_size {s : ByteArray} (h : namedB s = true) : s.size ≤ 8 := by
  unfold namedB at h
  split at h
  · cases h
  · split at h
    · cases h
    · omega
theorem good_enter {L : Ld} (hg : goodL L = true) {k : Nat} (hk : k < 6) (hh : L.here k = false) (nm : ByteArray) : goodL (L.setBeing k nm true false 0 10 0) = true := by
  refine good_beings hg rfl rfl rfl rfl rfl rfl (fun b hb => ?_) (fun i hi h1 => ?_)
  · have h := good_being hg b hb
    by_cases e : b = k
    · subst e
      refine being_mk ?_ ?_ ?_ ?_ ?_ <;> simp [Ld.setBeing, amg]
    · refine being_mk ?_ ?_ ?_ ?_ ?_ <;> simp [Ld.setBeing, e]
      · exact h.1
      · exact h.2.1
      · exact h.2.2.1
      · simpa using h.2.2.2.1
      · exact h.2.2.2.2
  · have hne : (L.loc i).toNat ≠ k := by
      intro e
      have hp := (good_kind hg i hi).2
      unfold gplace at hp
      rw [if_neg (by omega), if_pos h1] at hp
      simp only [Bool.and_eq_true] at hp
      rw [e, hh] at hp
      cases hp.2
    simp [Ld.setBeing, hne]
theorem bars_none {L : Ld} {nm : ByteArray} (h : bars L nm = 0) : goodL L = true ∧ namedB nm = true ∧ takenL L nm = false ∧ ∃ k : Nat, vacA L = ((k : Int), true) := by
  unfold bars at h
  by_cases h1 : goodL L = false
  · rw [if_pos h1] at h; omega
  · rw [if_neg h1] at h
    by_cases h2 : namedB nm = false
    · rw [if_pos h2] at h; omega
    · rw [if_neg h2] at h
      by_cases h3 : takenL L nm = true
      · rw [if_pos h3] at h; omega
      · rw [if_neg h3] at h
        by_cases h4 : (vacA L).2 = false
        · rw [if_pos h4] at h; omega
        · refine ⟨by simpa using h1, by simpa using h2, by simpa using h3, ?_⟩
          rcases vacD_eq L with ⟨_, e⟩ | ⟨k, _, _, e⟩
          · exact absurd e h4
          · exact ⟨k, e⟩

set_option maxRecDepth 100000 in
set_option maxHeartbeats 4000000 in
theorem entersW (L : Ld) (nm : ByteArray) (wA : World) (hvb : Vb wA) (hvr : Vr wA) (hwf : Wf L) (hn1 : ∀ r, r < 6 → (L.rname r).size ≤ 1048576) (hn2 : ∀ i, i < 9 → (L.tname i).size ≤ 1048576) (hn3 : ∀ b, b < 6 → (L.bname b).size ≤ 1048576) (hs : nm.size ≤ 140737488355328) :
    Calls Tryd.prog 3 #[.agg L.cells, .string nm] wA fun e W' => e = .returned (.bool true) ∧ Below wA.heap.size wA W' := by
  have hz := (zero_of_info Tryd.zLand).1
  have C0 := hide (cod_new wA L)
  have B0 := hide (below_box wA (.cells L.cells 34))
  have V0 := hide (hvb.alloc (.cells L.cells 34))
  have VR0 := hide (hvr.below (below_box wA (.cells L.cells 34)) (Nat.le_refl _))
  have HN := hide (And.intro hn1 (And.intro hn2 hn3))
  have HRE := hide (refG_eq L)
  clear hvb hvr hn1 hn2 hn3
  go_enter Tryd.func3, Tryd.ntmps3
  go_wp2_with (refine wl_land (.tmp 2) rfl rfl _ L rfl C0.out ?_)
  generalize wA.alloc (.cells L.cells 34) = w0 at *
  by_cases hb : bars L nm = 0
  · obtain ⟨hg, hnm, htk, k, hvac⟩ := bars_none hb
    obtain ⟨hk, hhk⟩ := vac_here hvac
    obtain ⟨X, hX⟩ : ∃ X, beginL (L.setBeing k nm true false 0 0 0) k = X := ⟨_, rfl⟩
    obtain ⟨Fs, hFs⟩ : ∃ Fs, beginE X k = Fs := ⟨_, rfl⟩
    have hXe : X = L.setBeing k nm true false 0 10 0 := hX.symm.trans (begin_being L k nm)
    have hfX : Fine X := by
      rw [hXe]
      refine fine_of (good_enter hg hk hhk nm) HN.out.1 HN.out.2.1 (fun b hb => ?_)
      show (if b = k then nm else L.bname b).size ≤ _
      split
      · have := named_size hnm; omega
      · exact HN.out.2.2 b hb
    have HLF := hide (show Fs.length ≤ 10 by rw [← hFs]; exact begin_len X k)
    refine (enter_any L X Fs nm k _ V0.out hwf hs hg hnm htk hk hvac hX hFs hfX).mono ?_
    have HE := hide (And.intro hg (And.intro hnm (And.intro htk (And.intro hvac (And.intro hX (And.intro hFs hfX))))))
    clear hg hnm htk hvac hX hFs hfX hXe hhk hb
    rintro e w1 ⟨v, rfl, ho, hb1⟩
    have C1 := hide ((C0.out.behind hb1 (Nat.le_refl _)).alloc (.cells X.cells 34))
    have X1 := hide (cod_new w1 X)
    have V1 := hide ((V0.out.below hb1 (Nat.le_refl _)).alloc (.cells X.cells 34))
    have VR1 := hide ((VR0.out.below hb1 (Nat.le_refl _)).below (below_box w1 (.cells X.cells 34)) (Nat.le_refl _))
    have B1 := hide ((B0.out.trans (hb1.mono B0.out.size)).alloc (by have := B0.out.size; have := hb1.size; omega) (.cells X.cells 34))
    have O1 := hide (own_below ho (below_box w1 (.cells X.cells 34)))
    obtain ⟨av, cap, rfl⟩ := shapeE ho
    clear hb1 C0 B0 V0 VR0 ho HN
    go_wp2_with (first | (refine wl_new 34 (.tmp 5) (.tmp 17) rfl rfl _ _ rfl rfl rfl (by rw [Ld.size]; exact Tryd.sizeLand) (by rw [Ld.size, Ld.size]) (land_one _) ?_) | (refine wl_land (.tmp 2) rfl rfl _ L rfl C1.out ?_))
    generalize hk5 : w1.heap.size = k5 at *
    generalize w1.alloc (.cells X.cells 34) = w1' at *
    refine (enterland_any L X Fs nm k _ VR1.out hs HRE.out HE.out.1 HE.out.2.1 HE.out.2.2.1 hk HE.out.2.2.2.1 HE.out.2.2.2.2.1 HE.out.2.2.2.2.2.1 HE.out.2.2.2.2.2.2).mono ?_
    rintro e w2 ⟨v2, rfl, ho2, hb2⟩
    have X2 := hide ((X1.out.behind hb2 (Nat.le_refl _)).alloc (.cells X.cells 34))
    have Y2 := hide (cod_new w2 X)
    have V2 := hide ((V1.out.below hb2 (Nat.le_refl _)).alloc (.cells X.cells 34))
    have B2 := hide ((B1.out.trans (hb2.mono B1.out.size)).alloc (by have := B1.out.size; have := hb2.size; omega) (.cells X.cells 34))
    have O2 := hide (own_below (own_below O1.out hb2) (below_box w2 (.cells X.cells 34)))
    have P2 := hide (own_below ho2 (below_box w2 (.cells X.cells 34)))
    obtain ⟨av2, cap2, rfl⟩ := shapeE ho2
    clear hb2 C1 X1 V1 B1 O1 VR1 ho2 hk5 HRE HE
    go_wp2_with (first | (refine wl_new 34 (.tmp 9) (.tmp 25) rfl rfl _ _ rfl rfl rfl (by rw [Ld.size]; exact Tryd.sizeLand) (by rw [Ld.size, Ld.size]) (land_one _) ?_) | (refine wl_land (.tmp 5) rfl rfl _ X rfl X2.out ?_) | (refine wl_land (.tmp 9) rfl rfl _ X rfl Y2.out ?_) | (refine wl_eqlandF (.tmp 29) (.tmp 30) 34 rfl rfl X rfl rfl ?_))
    refine (same_any O2.out P2.out (by have := HLF.out; omega)).mono ?_
    rintro e w3 ⟨rfl, n3, hw3⟩
    have V3 := hide (show Vb w3 by rw [hw3]; exact V2.out.drewN n3)
    have B3 := hide (show Below wA.heap.size wA w3 by rw [hw3]; exact below_drewN B2.out n3)
    clear hw3 X2 Y2 V2 B2
    go_wp2_with fail
    refine (rnamed_any nm _ hs).mono ?_
    rintro e w4 ⟨rfl, hw4⟩
    rw [hw4]
    clear hw4 w4
    go_wp2_with fail
    refine (isnamed_any nm _ hs).mono ?_
    rintro e w4 ⟨rfl, hb4⟩
    have V4 := hide (V3.out.below hb4 (Nat.le_refl _))
    have B4 := hide (B3.out.trans (hb4.mono B3.out.size))
    clear hb4 V3 B3
    generalize namedB nm = nb
    go_wp2_with fail
    refine (lacts_any _ V4.out).mono ?_
    rintro e w5 ⟨rfl, hb5⟩
    have BF := hide (B4.out.trans (hb5.mono B4.out.size))
    clear hb5
    go_wp2
    go_ret
    exact ⟨rfl, BF.out⟩
  · refine (enter_bad L nm _ hwf hs hb).mono ?_
    have HB := hide hb
    clear hb
    rintro e w1 ⟨rfl, hb1⟩
    have C1 := hide ((C0.out.behind hb1 (Nat.le_refl _)).alloc (.cells L.cells 34))
    have X1 := hide (cod_new w1 L)
    have V1 := hide ((V0.out.below hb1 (Nat.le_refl _)).alloc (.cells L.cells 34))
    have B1 := hide ((B0.out.trans (hb1.mono B0.out.size)).alloc (by have := B0.out.size; have := hb1.size; omega) (.cells L.cells 34))
    clear hb1 C0 B0 V0 VR0 HN
    go_wp2_with (first | (refine wl_new 34 (.tmp 5) (.tmp 17) rfl rfl _ _ rfl rfl rfl (by rw [Ld.size]; exact Tryd.sizeLand) (by rw [Ld.size, Ld.size]) (land_one _) ?_) | (refine wl_land (.tmp 2) rfl rfl _ L rfl C1.out ?_))
    generalize hk5 : w1.heap.size = k5 at *
    generalize w1.alloc (.cells L.cells 34) = w1' at *
    refine (enterland_bad L nm _ hs HRE.out HB.out).mono ?_
    generalize bars L nm = er
    rintro e w2 ⟨rfl, hb2⟩
    have X2 := hide ((X1.out.behind hb2 (Nat.le_refl _)).alloc (.cells L.cells 34))
    have Y2 := hide (cod_new w2 L)
    have V2 := hide ((V1.out.below hb2 (Nat.le_refl _)).alloc (.cells L.cells 34))
    have B2 := hide ((B1.out.trans (hb2.mono B1.out.size)).alloc (by have := B1.out.size; have := hb2.size; omega) (.cells L.cells 34))
    clear hb2 C1 X1 V1 B1 hk5 HB HRE
    go_wp2_with (first | (refine wl_new 34 (.tmp 9) (.tmp 25) rfl rfl _ _ rfl rfl rfl (by rw [Ld.size]; exact Tryd.sizeLand) (by rw [Ld.size, Ld.size]) (land_one _) ?_) | (refine wl_land (.tmp 5) rfl rfl _ L rfl X2.out ?_) | (refine wl_land (.tmp 9) rfl rfl _ L rfl Y2.out ?_) | (refine wl_eqlandF (.tmp 29) (.tmp 30) 34 rfl rfl L rfl rfl ?_))
    refine (same_any (Fs := []) (b1 := 0) (b2 := 0) (World.ownsRow_nil _ _ _ _) (World.ownsRow_nil _ _ _ _) (by simp)).mono ?_
    rintro e w3 ⟨rfl, n3, hw3⟩
    have V3 := hide (show Vb w3 by rw [hw3]; exact V2.out.drewN n3)
    have B3 := hide (show Below wA.heap.size wA w3 by rw [hw3]; exact below_drewN B2.out n3)
    clear hw3 X2 Y2 V2 B2
    go_wp2_with fail
    refine (rnamed_any nm _ hs).mono ?_
    rintro e w4 ⟨rfl, hw4⟩
    rw [hw4]
    clear hw4 w4
    go_wp2_with fail
    refine (isnamed_any nm _ hs).mono ?_
    rintro e w4 ⟨rfl, hb4⟩
    have V4 := hide (V3.out.below hb4 (Nat.le_refl _))
    have B4 := hide (B3.out.trans (hb4.mono B3.out.size))
    clear hb4 V3 B3
    generalize namedB nm = nb
    go_wp2_with fail
    refine (lacts_any _ V4.out).mono ?_
    rintro e w5 ⟨rfl, hb5⟩
    have BF := hide (B4.out.trans (hb5.mono B4.out.size))
    clear hb5
    go_wp2
    go_ret
    exact ⟨rfl, BF.out⟩
end Go.Proofs.YtaifjndkgfffpaaDoor
