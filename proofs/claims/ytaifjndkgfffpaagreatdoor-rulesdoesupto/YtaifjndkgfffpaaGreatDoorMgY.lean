/-
  The document's own Act, at every verb: the contract.
-/
import Derived.Test.YtaifjndkgfffpaaGreatDoorRfActA
import Derived.Test.YtaifjndkgfffpaaGreatDoorRfActB
import Derived.Test.YtaifjndkgfffpaaGreatDoorRfActC
import Derived.Test.YtaifjndkgfffpaaGreatDoorRfActD
import Derived.Test.YtaifjndkgfffpaaGreatDoorMgR
import Derived.Test.YtaifjndkgfffpaaGreatDoorMgS
namespace Go.Proofs.YtaifjndkgfffpaaGreatDoor
open Go.RowKit
set_option linter.unusedVariables false
theorem actof_any (L : Ld) (b : Nat) (hb : b < 6) (O : Od) (w : World) (hvr : Vr w) (hf : Fine L) (hg : goodL L = true) (hh : L.here b = true) (hs1 : O.name.size ≤ 8796093022207) (hs2 : O.second.size ≤ 8796093022207) (hn0 : -9223372036854775808 ≤ O.nth) (hn1 : O.nth ≤ 9223372036854775807) (h0 : 0 ≤ O.verb) (h1 : O.verb ≤ 20) :
    Calls Tryz.prog 5 #[.agg L.cells, .int .i64 (b : Int), .agg O.cells] w fun e w' => ∃ v, e = .returned (.tuple #[.agg (actL L b O).cells, v, .int .i64 0]) ∧ w'.ownsRow w.heap.size 62 16 v (actE L b O).length (evc (actE L b O)) ∧ Below w.heap.size w w' := by
  rcases (show (O.verb = 0 ∨ O.verb = 1 ∨ O.verb = 2 ∨ O.verb = 3 ∨ O.verb = 4 ∨ O.verb = 5 ∨ O.verb = 6) ∨ (O.verb = 7 ∨ O.verb = 8 ∨ O.verb = 9 ∨ O.verb = 10 ∨ O.verb = 11 ∨ O.verb = 19) ∨ (O.verb = 12 ∨ O.verb = 13 ∨ O.verb = 14 ∨ O.verb = 15 ∨ O.verb = 16 ∨ O.verb = 17) ∨ (O.verb = 18 ∨ O.verb = 20) by omega) with h | h | h | h
  · exact actof_A L b hb O h w _ _ rfl rfl hvr hf hg hh hs1 hs2 hn0 hn1
  · exact actof_B L b hb O h w _ _ rfl rfl hvr hf hg hh hs1 hs2 hn0 hn1
  · exact actof_C L b hb O h w _ _ rfl rfl hvr hf hg hh hs1 hs2 hn0 hn1
  · exact actof_D L b hb O h w _ _ rfl rfl hvr hf hg hh hs1 hs2 hn0 hn1
/-
  RulesDoes: what it answers.
-/
set_option maxRecDepth 100000 in
set_option maxHeartbeats 4000000 in
theorem doesW (L : Ld) (b : Int) (O : Od) (wA : World) (hvb : Vb wA) (hvr : Vr wA) (hwf : Wf L) (hn1 : ∀ r, r < 6 → (L.rname r).size ≤ 1048576) (hn2 : ∀ i, i < 9 → (L.tname i).size ≤ 1048576) (hn3 : ∀ b, b < 6 → (L.bname b).size ≤ 1048576) (hs1 : O.name.size ≤ 1048576) (hs2 : O.second.size ≤ 1048576) (hq0 : -9223372036854775808 ≤ O.nth) (hq1 : O.nth ≤ 9223372036854775807) :
    Calls Tryz.prog 3 #[.agg L.cells, .int .i64 b, .agg O.cells] wA fun e W' => e = .returned (.bool true) ∧ Below wA.heap.size wA W' := by
  have hz := (zero_of_info Tryz.zLand).1
  have C0 := hide ((cod_new wA L).alloc (.cells O.cells 36))
  have B0 := hide ((below_box wA (.cells L.cells 34)).alloc (by simp) (.cells O.cells 36))
  have V0 := hide ((hvb.alloc (.cells L.cells 34)).alloc (.cells O.cells 36))
  have VR0 := hide (hvr.below B0.out (Nat.le_refl _))
  have G0 : Hid (((wA.alloc (.cells L.cells 34)).alloc (.cells O.cells 36)).heap[wA.heap.size + 1]? = some (.cells O.cells 36 (0, 0))) := by
    have := heap_alloc_new (wA.alloc (.cells L.cells 34)) (.cells O.cells 36)
    rw [World.size_alloc] at this; exact this
  have HN := hide (And.intro hn1 (And.intro hn2 hn3))
  have HS := hide (And.intro hs1 hs2)
  clear hvb hvr hn1 hn2 hn3 hs1 hs2
  go_enter Tryz.func3, Tryz.ntmps3
  go_wp2_with (first | (refine wl_land (.tmp 3) rfl rfl _ L rfl C0.out ?_) | (refine wl_wanted rfl (wp_load_row 36 (.tmp 5) rfl (wA.heap.size + 1) rfl 36 O.cells (0, 0) _ G0.out Tryz.underlying36 rfl Tryz.sizeOrder ?_)))
  generalize (wA.alloc (.cells L.cells 34)).alloc (.cells O.cells 36) = w0 at *
  by_cases hr : refuses L b O.verb ≠ 0
  · have AB := hide (fun w => actof_bad L b O w hr)
    refine (do_bad L b O _ hwf hr).mono ?_
    rintro e w1 ⟨rfl, hb1⟩
    have C1 := hide ((C0.out.behind hb1 (Nat.le_refl _)).alloc (.cells L.cells 34))
    have X1 := hide (cod_new w1 L)
    have V1 := hide ((V0.out.below hb1 (Nat.le_refl _)).alloc (.cells L.cells 34))
    have VR1 := hide ((VR0.out.below hb1 (Nat.le_refl _)).below (below_box w1 (.cells L.cells 34)) (Nat.le_refl _))
    have B1 := hide ((B0.out.trans (hb1.mono B0.out.size)).alloc (by have := B0.out.size; have := hb1.size; omega) (.cells L.cells 34))
    have G1 : Hid ((w1.alloc (.cells L.cells 34)).heap[wA.heap.size + 1]? = some (.cells O.cells 36 (0, 0))) := by
      have hlt := (Array.getElem?_eq_some_iff.1 G0.out).1
      rw [Below.heap_alloc _ _ _ (by have := hb1.size; omega), hb1.block _ hlt]; exact G0.out
    clear hr
    generalize refuses L b O.verb = rf at *
    clear hb1 C0 B0 V0 VR0 G0 HN HS
    go_wp2_with (first | (refine wl_new 34 (.tmp 7) (.tmp 18) rfl rfl _ _ rfl rfl rfl (by rw [Ld.size]; exact Tryz.sizeLand) (by rw [Ld.size, Ld.size]) (land_one _) ?_) | (refine wl_land (.tmp 3) rfl rfl _ L rfl C1.out ?_) | (refine wl_wanted rfl (wp_load_row 36 (.tmp 5) rfl (wA.heap.size + 1) rfl 36 O.cells (0, 0) _ G1.out Tryz.underlying36 rfl Tryz.sizeOrder ?_)))
    generalize hk7 : w1.heap.size = k7 at *
    generalize w1.alloc (.cells L.cells 34) = w1' at *
    refine (AB.out _).mono ?_
    rintro e w2 ⟨rfl, hb2⟩
    have X2 := hide ((X1.out.behind hb2 (Nat.le_refl _)).alloc (.cells L.cells 34))
    have Y2 := hide (cod_new w2 L)
    have V2 := hide ((V1.out.below hb2 (Nat.le_refl _)).alloc (.cells L.cells 34))
    have B2 := hide ((B1.out.trans (hb2.mono B1.out.size)).alloc (by have := B1.out.size; have := hb2.size; omega) (.cells L.cells 34))
    have hrr : (rf == rf) = true := by simp
    clear hb2 C1 X1 V1 VR1 B1 G1 hk7 AB
    go_wp2_with (first | (refine wl_new 34 (.tmp 10) (.tmp 26) rfl rfl _ _ rfl rfl rfl (by rw [Ld.size]; exact Tryz.sizeLand) (by rw [Ld.size, Ld.size]) (land_one _) ?_) | (refine wl_land (.tmp 7) rfl rfl _ L rfl X2.out ?_) | (refine wl_land (.tmp 10) rfl rfl _ L rfl Y2.out ?_) | (refine wl_eqlandF (.tmp 29) (.tmp 30) 34 rfl rfl L rfl rfl ?_))
    refine (same_any (Fs := []) (b1 := 0) (b2 := 0) (World.ownsRow_nil _ _ _ _) (World.ownsRow_nil _ _ _ _) (by simp)).mono ?_
    rintro e w3 ⟨rfl, n3, hw3⟩
    have V3 := hide (show Vb w3 by rw [hw3]; exact V2.out.drewN n3)
    have B3 := hide (show Below wA.heap.size wA w3 by rw [hw3]; exact below_drewN B2.out n3)
    clear hw3 X2 Y2 V2 B2
    go_wp2_with fail
    refine (lacts_any _ V3.out).mono ?_
    rintro e w4 ⟨rfl, hb4⟩
    have BF := hide (B3.out.trans (hb4.mono B3.out.size))
    clear hb4
    go_wp2
    go_ret
    exact ⟨rfl, BF.out⟩
  · obtain ⟨hg, ha, hh, hv0, hv1⟩ := refuses_nil (by simpa using hr)
    obtain ⟨h0, h6⟩ := amg_pos ha
    obtain ⟨k, rfl⟩ := Int.eq_ofNat_of_zero_le h0
    have hk : k < 6 := by omega
    have hh' : L.here k = true := by simpa using hh
    have hf := fine_of hg HN.out.1 HN.out.2.1 HN.out.2.2
    have hO : OdOk O := ⟨by have := HS.out.1; omega, by have := HS.out.2; omega, hq0, hq1⟩
    have HLn := hide (act_len L k O)
    have AB := hide (fun w (hvr : Vr w) => actof_any L k hk O w hvr hf hg hh' (by have := HS.out.1; omega) (by have := HS.out.2; omega) hq0 hq1 hv0 hv1)
    refine (do_any L (actL L k O) (actE L k O) k O _ V0.out hwf hg hk hh' hv0 hv1 (fun w0 w hvb hS => (act_any hS hf hg hvb k hk O hO hv0 hv1 (by simp)))).mono ?_
    rintro e w1 ⟨v, rfl, ho, hb1⟩
    generalize actL L k O = X at *
    generalize actE L k O = Fs at *
    have C1 := hide ((C0.out.behind hb1 (Nat.le_refl _)).alloc (.cells X.cells 34))
    have X1 := hide (cod_new w1 X)
    have V1 := hide ((V0.out.below hb1 (Nat.le_refl _)).alloc (.cells X.cells 34))
    have VR1 := hide ((VR0.out.below hb1 (Nat.le_refl _)).below (below_box w1 (.cells X.cells 34)) (Nat.le_refl _))
    have B1 := hide ((B0.out.trans (hb1.mono B0.out.size)).alloc (by have := B0.out.size; have := hb1.size; omega) (.cells X.cells 34))
    have G1 : Hid ((w1.alloc (.cells X.cells 34)).heap[wA.heap.size + 1]? = some (.cells O.cells 36 (0, 0))) := by
      have hlt := (Array.getElem?_eq_some_iff.1 G0.out).1
      rw [Below.heap_alloc _ _ _ (by have := hb1.size; omega), hb1.block _ hlt]; exact G0.out
    have O1 := hide (own_below ho (below_box w1 (.cells X.cells 34)))
    obtain ⟨av, cap, rfl⟩ := shapeE ho
    clear hb1 C0 B0 V0 VR0 G0 ho HN HS hr hg ha hh hh' hf hO
    go_wp2_with (first | (refine wl_new 34 (.tmp 7) (.tmp 18) rfl rfl _ _ rfl rfl rfl (by rw [Ld.size]; exact Tryz.sizeLand) (by rw [Ld.size, Ld.size]) (land_one _) ?_) | (refine wl_land (.tmp 3) rfl rfl _ L rfl C1.out ?_) | (refine wl_wanted rfl (wp_load_row 36 (.tmp 5) rfl (wA.heap.size + 1) rfl 36 O.cells (0, 0) _ G1.out Tryz.underlying36 rfl Tryz.sizeOrder ?_)))
    generalize hk7 : w1.heap.size = k7 at *
    generalize w1.alloc (.cells X.cells 34) = w1' at *
    refine (AB.out _ VR1.out).mono ?_
    rintro e w2 ⟨v2, rfl, ho2, hb2⟩
    have X2 := hide ((X1.out.behind hb2 (Nat.le_refl _)).alloc (.cells X.cells 34))
    have Y2 := hide (cod_new w2 X)
    have V2 := hide ((V1.out.below hb2 (Nat.le_refl _)).alloc (.cells X.cells 34))
    have B2 := hide ((B1.out.trans (hb2.mono B1.out.size)).alloc (by have := B1.out.size; have := hb2.size; omega) (.cells X.cells 34))
    have O2 := hide (own_below (own_below O1.out hb2) (below_box w2 (.cells X.cells 34)))
    have P2 := hide (own_below ho2 (below_box w2 (.cells X.cells 34)))
    obtain ⟨av2, cap2, rfl⟩ := shapeE ho2
    clear hb2 C1 X1 V1 VR1 B1 O1 G1 ho2 hk7 AB
    go_wp2_with (first | (refine wl_new 34 (.tmp 10) (.tmp 26) rfl rfl _ _ rfl rfl rfl (by rw [Ld.size]; exact Tryz.sizeLand) (by rw [Ld.size, Ld.size]) (land_one _) ?_) | (refine wl_land (.tmp 7) rfl rfl _ X rfl X2.out ?_) | (refine wl_land (.tmp 10) rfl rfl _ X rfl Y2.out ?_) | (refine wl_eqlandF (.tmp 29) (.tmp 30) 34 rfl rfl X rfl rfl ?_))
    refine (same_any O2.out P2.out (by have := HLn.out; omega)).mono ?_
    rintro e w3 ⟨rfl, n3, hw3⟩
    have V3 := hide (show Vb w3 by rw [hw3]; exact V2.out.drewN n3)
    have B3 := hide (show Below wA.heap.size wA w3 by rw [hw3]; exact below_drewN B2.out n3)
    clear hw3 X2 Y2 V2 B2 O2 P2
    go_wp2_with fail
    refine (lacts_any _ V3.out).mono ?_
    rintro e w4 ⟨rfl, hb4⟩
    have BF := hide (B3.out.trans (hb4.mono B3.out.size))
    clear hb4
    go_wp2
    go_ret
    exact ⟨rfl, BF.out⟩
end Go.Proofs.YtaifjndkgfffpaaGreatDoor
