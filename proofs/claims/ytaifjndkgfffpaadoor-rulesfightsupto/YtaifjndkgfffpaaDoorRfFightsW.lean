/-
  RulesFights: what it answers.
-/
import Derived.Test.YtaifjndkgfffpaaDoorRfRound
import Derived.Test.YtaifjndkgfffpaaDoorRfPure
import Derived.Test.YtaifjndkgfffpaaDoorRfSame
import Derived.Test.YtaifjndkgfffpaaDoorRfActs
namespace Go.Proofs.YtaifjndkgfffpaaDoor
open Go.RowKit
set_option linter.unusedVariables false

set_option maxRecDepth 100000 in
set_option maxHeartbeats 4000000 in
theorem fightsW (L : Ld) (d : Int) (wA : World) (hvb : Vb wA) (hvr : Vr wA) (hwf : Wf L) (hn1 : ∀ r, r < 6 → (L.rname r).size ≤ 1048576) (hn2 : ∀ i, i < 9 → (L.tname i).size ≤ 1048576) (hn3 : ∀ b, b < 6 → (L.bname b).size ≤ 1048576) :
    Calls Tryd.prog 4 #[.agg L.cells, .int .i64 d] wA fun e W' => e = .returned (.bool true) ∧ Below wA.heap.size wA W' := by
  have hz := (zero_of_info Tryd.zLand).1
  have C0 := hide (cod_new wA L)
  have B0 := hide (below_box wA (.cells L.cells 34))
  have V0 := hide (hvb.alloc (.cells L.cells 34))
  have VR0 := hide (hvr.below (below_box wA (.cells L.cells 34)) (Nat.le_refl _))
  have HN := hide (And.intro hn1 (And.intro hn2 hn3))
  have HRE := hide (refG_eq L)
  clear hvb hvr hn1 hn2 hn3
  go_enter Tryd.func4, Tryd.ntmps4
  go_wp2_with (refine wl_land (.tmp 2) rfl rfl _ L rfl C0.out ?_)
  generalize wA.alloc (.cells L.cells 34) = w0 at *
  cases hg : goodL L with
  | false =>
    refine (round_bad L d _ hwf hg).mono ?_
    rintro e w1 ⟨rfl, hb1⟩
    have C1 := hide ((C0.out.behind hb1 (Nat.le_refl _)).alloc (.cells L.cells 34))
    have X1 := hide (cod_new w1 L)
    have V1 := hide ((V0.out.below hb1 (Nat.le_refl _)).alloc (.cells L.cells 34))
    have B1 := hide ((B0.out.trans (hb1.mono B0.out.size)).alloc (by have := B0.out.size; have := hb1.size; omega) (.cells L.cells 34))
    have HRB := hide (show refG L = false by rw [HRE.out]; exact hg)
    clear hb1 C0 B0 V0 VR0 hg HN HRE
    go_wp2_with (first | (refine wl_new 34 (.tmp 5) (.tmp 15) rfl rfl _ _ rfl rfl rfl (by rw [Ld.size]; exact Tryd.sizeLand) (by rw [Ld.size, Ld.size]) (land_one _) ?_) | (refine wl_land (.tmp 2) rfl rfl _ L rfl C1.out ?_))
    generalize hk5 : w1.heap.size = k5 at *
    generalize w1.alloc (.cells L.cells 34) = w1' at *
    refine (roundof_bad L d _ HRB.out).mono ?_
    rintro e w2 ⟨rfl, hb2⟩
    have X2 := hide ((X1.out.behind hb2 (Nat.le_refl _)).alloc (.cells L.cells 34))
    have Y2 := hide (cod_new w2 L)
    have V2 := hide ((V1.out.below hb2 (Nat.le_refl _)).alloc (.cells L.cells 34))
    have B2 := hide ((B1.out.trans (hb2.mono B1.out.size)).alloc (by have := B1.out.size; have := hb2.size; omega) (.cells L.cells 34))
    clear hb2 C1 X1 V1 B1 HRB hk5
    go_wp2_with (first | (refine wl_new 34 (.tmp 8) (.tmp 22) rfl rfl _ _ rfl rfl rfl (by rw [Ld.size]; exact Tryd.sizeLand) (by rw [Ld.size, Ld.size]) (land_one _) ?_) | (refine wl_land (.tmp 5) rfl rfl _ L rfl X2.out ?_) | (refine wl_land (.tmp 8) rfl rfl _ L rfl Y2.out ?_) | (refine wl_eqlandF (.tmp 25) (.tmp 26) 34 rfl rfl L rfl rfl ?_))
    refine (same_any (Fs := []) (b1 := 0) (b2 := 0) (World.ownsRow_nil _ _ _ _) (World.ownsRow_nil _ _ _ _) (by simp)).mono ?_
    rintro e w3 ⟨rfl, n3, hw3⟩
    have V3 := hide (show Vb w3 by rw [hw3]; exact V2.out.drewN n3)
    have B3 := hide (show Below wA.heap.size wA w3 by rw [hw3]; exact below_drewN B2.out n3)
    clear hw3 X2 Y2 V2 B2
    go_wp2_with fail
    refine (lacts_any _ V3.out).mono ?_
    rintro e w4 ⟨rfl, hb4⟩
    have BF := hide (B3.out.trans (hb4.mono B3.out.size))
    clear hb4
    go_wp2
    go_ret
    exact ⟨rfl, BF.out⟩
  | true =>
    have hf := fine_of hg HN.out.1 HN.out.2.1 HN.out.2.2
    have HFI := hide hf
    have HG := hide hg
    have HLn := hide (round_len L (drawN d) 6)
    obtain ⟨X, hX⟩ : ∃ X, (roundK L (drawN d) 6).1 = X := ⟨_, rfl⟩
    obtain ⟨Fs, hFs⟩ : ∃ Fs, (roundK L (drawN d) 6).2 = Fs := ⟨_, rfl⟩
    refine (round_any L d _ X Fs hX hFs V0.out hwf hf hg).mono ?_
    have HXX := hide hX
    have HFF := hide hFs
    have HLF := hide (show Fs.length ≤ 72 by rw [← hFs]; exact HLn.out)
    clear hX hFs HLn
    rintro e w1 ⟨v, rfl, ho, hb1⟩
    have C1 := hide ((C0.out.behind hb1 (Nat.le_refl _)).alloc (.cells X.cells 34))
    have X1 := hide (cod_new w1 X)
    have V1 := hide ((V0.out.below hb1 (Nat.le_refl _)).alloc (.cells X.cells 34))
    have VR1 := hide ((VR0.out.below hb1 (Nat.le_refl _)).below (below_box w1 (.cells X.cells 34)) (Nat.le_refl _))
    have B1 := hide ((B0.out.trans (hb1.mono B0.out.size)).alloc (by have := B0.out.size; have := hb1.size; omega) (.cells X.cells 34))
    have O1 := hide (own_below ho (below_box w1 (.cells X.cells 34)))
    obtain ⟨av, cap, rfl⟩ := shapeE ho
    clear hb1 C0 B0 V0 VR0 ho HN hf hg
    go_wp2_with (first | (refine wl_new 34 (.tmp 5) (.tmp 15) rfl rfl _ _ rfl rfl rfl (by rw [Ld.size]; exact Tryd.sizeLand) (by rw [Ld.size, Ld.size]) (land_one _) ?_) | (refine wl_land (.tmp 2) rfl rfl _ L rfl C1.out ?_))
    generalize hk5 : w1.heap.size = k5 at *
    generalize w1.alloc (.cells X.cells 34) = w1' at *
    refine (roundof_any L d _ X Fs HXX.out HFF.out VR1.out HFI.out HG.out (by rw [HRE.out]; exact HG.out)).mono ?_
    rintro e w2 ⟨v2, rfl, ho2, hb2⟩
    have X2 := hide ((X1.out.behind hb2 (Nat.le_refl _)).alloc (.cells X.cells 34))
    have Y2 := hide (cod_new w2 X)
    have V2 := hide ((V1.out.below hb2 (Nat.le_refl _)).alloc (.cells X.cells 34))
    have B2 := hide ((B1.out.trans (hb2.mono B1.out.size)).alloc (by have := B1.out.size; have := hb2.size; omega) (.cells X.cells 34))
    have O2 := hide (own_below (own_below O1.out hb2) (below_box w2 (.cells X.cells 34)))
    have P2 := hide (own_below ho2 (below_box w2 (.cells X.cells 34)))
    obtain ⟨av2, cap2, rfl⟩ := shapeE ho2
    clear hb2 C1 X1 V1 B1 O1 VR1 ho2 hk5 HRE
    go_wp2_with (first | (refine wl_new 34 (.tmp 8) (.tmp 22) rfl rfl _ _ rfl rfl rfl (by rw [Ld.size]; exact Tryd.sizeLand) (by rw [Ld.size, Ld.size]) (land_one _) ?_) | (refine wl_land (.tmp 5) rfl rfl _ X rfl X2.out ?_) | (refine wl_land (.tmp 8) rfl rfl _ X rfl Y2.out ?_) | (refine wl_eqlandF (.tmp 25) (.tmp 26) 34 rfl rfl X rfl rfl ?_))
    refine (same_any O2.out P2.out (by have := HLF.out; omega)).mono ?_
    rintro e w3 ⟨rfl, n3, hw3⟩
    have V3 := hide (show Vb w3 by rw [hw3]; exact V2.out.drewN n3)
    have B3 := hide (show Below wA.heap.size wA w3 by rw [hw3]; exact below_drewN B2.out n3)
    clear hw3 X2 Y2 V2 B2 O2 P2
    go_wp2_with fail
    refine (lacts_any _ V3.out).mono ?_
    rintro e w4 ⟨rfl, hb4⟩
    have BF := hide (B3.out.trans (hb4.mono B3.out.size))
    clear hb4
    go_wp2
    go_ret
    exact ⟨rfl, BF.out⟩
end Go.Proofs.YtaifjndkgfffpaaDoor
