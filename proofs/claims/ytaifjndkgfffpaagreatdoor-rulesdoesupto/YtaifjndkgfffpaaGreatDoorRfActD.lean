/-
  The document's own Act, at verbs 18, 20: the contract. Written by a program.
-/
import Derived.Test.YtaifjndkgfffpaaGreatDoorRfActP
import Derived.Deep.CutBlock
import Derived.Test.YtaifjndkgfffpaaGreatDoorRfWho
namespace Go.Proofs.YtaifjndkgfffpaaGreatDoor
open Go.RowKit
set_option linter.unusedVariables false

set_option maxRecDepth 100000 in
set_option maxHeartbeats 8000000 in
theorem actof_D (L : Ld) (b : Nat) (hb : b < 6) (O : Od) (hvb : O.verb = 18 ∨ O.verb = 20) (w : World) (L' : Ld) (Fs : List Ev) (hX : actL L b O = L') (hFs : actE L b O = Fs) (hvr : Vr w) (hf : Fine L) (hg : goodL L = true) (hh : L.here b = true) (hs1 : O.name.size ≤ 8796093022207) (hs2 : O.second.size ≤ 8796093022207) (hn0 : -9223372036854775808 ≤ O.nth) (hn1 : O.nth ≤ 9223372036854775807) :
    Calls Tryz.prog 5 #[.agg L.cells, .int .i64 (b : Int), .agg O.cells] w fun e w' => ∃ v, e = .returned (.tuple #[.agg L'.cells, v, .int .i64 0]) ∧ w'.ownsRow w.heap.size 62 16 v Fs.length (evc Fs) ∧ Below w.heap.size w w' := by
  have hz := (zero_of_info Tryz.zLand).1
  have hrg : refG L = true := by rw [refG_eq]; exact hg
  have hbi : (b : Int) < 6 := by omega
  have D0 := hide (do_start L O w)
  have HVB := hide hvb
  have HVR := hide hvr
  have HF := hide hf
  have HG := hide hg
  have HX := hide hX
  have HFS := hide hFs
  have HAB := hide (show abtL L (b : Int) = true by unfold abtL; rw [amg_mk (by omega) (by omega)]; simpa using hh)
  clear hvb hvr hf hg hX hFs hh
  go_enter Tryz.func5, Tryz.ntmps5
  go_wp2_with (refine wl_land (.tmp 3) rfl rfl _ L rfl D0.out.cod ?_)
  refine (goodland_any L _).mono ?_
  rintro e w1 ⟨rfl, hb1⟩
  have D1 := hide (D0.out.call hb1)
  rw [hrg]
  clear hb1 D0 hrg
  go_wp2_with (refine wl_land (.tmp 3) rfl rfl _ L rfl D1.out.cod ?_)
  refine (about_any L (b : Int) _).mono ?_
  rintro e w2 ⟨rfl, hb2⟩
  have D2 := hide (D1.out.call hb2)
  rw [HAB.out]
  clear hb2 D1 HAB
  have cv : w2.cell? ⟨w.heap.size + 1, 0, none⟩ = some (.int .i64 O.verb) := by rw [cell_of_row _ _ _ _ _ _ D2.out.ord]; rfl
  have hv0 : decide (O.verb < 0) = false := by rcases HVB.out with h | h <;> rw [h] <;> rfl
  have hv1 : decide (20 < O.verb) = false := by rcases HVB.out with h | h <;> rw [h] <;> rfl
  have S3 : Hid (Sn 52 [.int .i64 (b : Int)] w2 L [] (w2.alloc (.cells (L.more [.int .i64 (b : Int)] (.slice none 0 0)) 52))) := tn_start L _ w2
  have D3 := hide (D2.out.call (below_box w2 (.cells (L.more [.int .i64 (b : Int)] (.slice none 0 0)) 52)))
  have K3 := hide (show w.heap.size + 1 < w2.heap.size ∧ w.heap.size + 1 + 1 < w2.heap.size from ⟨(Array.getElem?_eq_some_iff.1 D2.out.ord).1, (Array.getElem?_eq_some_iff.1 D2.out.res).1⟩)
  have VR := hide (HVR.out.below D2.out.low (Nat.le_refl _))
  go_upto_region 8 with (first | (refine wl_land (.tmp 3) rfl rfl _ L rfl D2.out.cod ?_) | (refine wl_build 52 #[(0, .tmp 30), (1, .tmp 31)] rfl ?hh _ _ (built_turn_at L (b : Int)) ?hv ?_))
  generalize w2.alloc (.cells (L.more [.int .i64 (b : Int)] (.slice none 0 0)) 52) = w3 at S3 D3 ⊢
  clear cv
  have o0 : w3.cell? ⟨w.heap.size + 1, 0, none⟩ = some (.int .i64 O.verb) := by rw [cell_of_row _ _ _ _ _ _ D3.out.ord]; rfl
  go_upto_block 0 with fail
  go_cut [9] from 10 to 146 (fun p wc => p = .pointer (some ⟨w2.heap.size, 0, none⟩) ∧ Sn 52 [.int .i64 (b : Int)] w2 (actL L b O) (actE L b O) wc)
  case first =>
    have hvb := HVB.out
    clear D2 HX HFS HVB hv0 hv1
    rcases hvb with hv | hv
    · rw [hv] at o0 ⊢
      have o1 : w3.cell? ⟨w.heap.size + 1, 1, none⟩ = some (.int .i64 O.nth) := by rw [cell_of_row _ _ _ _ _ _ D3.out.ord]; rfl
      have o2 : w3.cell? ⟨w.heap.size + 1, 2, none⟩ = some (.bool O.all) := by rw [cell_of_row _ _ _ _ _ _ D3.out.ord]; rfl
      have o3 : w3.cell? ⟨w.heap.size + 1, 3, none⟩ = some (.string O.name) := by rw [cell_of_row _ _ _ _ _ _ D3.out.ord]; rfl
      by_cases hg : O.nth = 1 ∧ O.all = false
      · have HW := hide (show hitW L b O = whoL L b O.name by unfold hitW; rw [if_pos hg])
        have hnb : (O.nth != 1) = false := by simp [hg.1]
        rw [hg.2] at o2
        clear hg
        go_wp2_with fail
        refine (personof_any S3.out hb O.name hs1 (by simp)).mono ?_
        rintro e w4 h
        clear o1 o2 o3
        rcases h with ⟨c, hc, rfl, S1h, T1h⟩ | ⟨hc, rfl, S1h, T1h⟩
        · have HL := hide (show hitsL L b O = foesL L b c by unfold hitsL; rw [HW.out, hc])
          have HE := hide (show hitsE L b O = [tellE (foesL L b c) b fightS] by unfold hitsE; rw [HW.out, hc])
          clear S3 D3 o0
          obtain ⟨h6, hsee⟩ := who_sees hc
          have hcb : c ≠ b := by
            unfold seesO at hsee
            simp only [Bool.and_eq_true, decide_eq_true_eq] at hsee
            exact hsee.1
          have hci : (c : Int) < 6 := by omega
          have d5 := S1h.being b 5 hb (by omega)
          have e5 := S1h.being c 5 h6 (by omega)
          have f5 := S1h.soft (129 + b * 6 + 5)
          have g5 := S1h.soft (129 + c * 6 + 5)
          simp only [Ld.beingCell] at d5 e5
          have X1 := hide (S1h.set (by omega) (L.up_foe b hb ((c : Int) + 1)))
          have hne : 129 + c * 6 + 5 ≠ 129 + b * 6 + 5 := by omega
          have hne2 : 129 + b * 6 + 5 ≠ 129 + c * 6 + 5 := by omega
          have hfe : (L.setFoe b ((c : Int) + 1)).foe c = L.foe c := by simp [Ld.setFoe, hcb]
          by_cases h0 : L.foe c = 0
          · have HF2 := hide (show foesL L b c = (L.setFoe b ((c : Int) + 1)).setFoe c ((b : Int) + 1) by unfold foesL; rw [hfe, if_pos h0])
            rw [h0] at e5
            have X2 := hide (X1.out.set (by omega) ((L.setFoe b ((c : Int) + 1)).up_foe c h6 ((b : Int) + 1)))
            clear S1h T1h hc hsee h0 hfe
            go_wp2_with fail
            refine (ttell_any X2.out hb _ (by simp)).mono ?_
            rintro e wF ⟨rfl, S2h, T2h⟩
            rw [← HF2.out, List.nil_append] at S2h
            have S5 := hide S2h
            clear S2h T2h
            have SF := hide (show Sn 52 [.int .i64 (b : Int)] w2 (actL L b O) (actE L b O) wF by
              rw [show actL L b O = hitsL L b O by unfold actL; rw [hv]; rfl, show actE L b O = hitsE L b O by unfold actE; rw [hv]; rfl]
              exact (by rw [HL.out, HE.out]; exact S5.out))
            go_wp2
            go_meet
            exact ⟨rfl, SF.out⟩
          · have HF2 := hide (show foesL L b c = L.setFoe b ((c : Int) + 1) by unfold foesL; rw [hfe, if_neg h0])
            have h0b : (L.foe c == 0) = false := by simp [h0]
            clear S1h T1h hc hsee h0 hfe
            go_wp2_with fail
            refine (ttell_any X1.out hb _ (by simp)).mono ?_
            rintro e wF ⟨rfl, S2h, T2h⟩
            rw [← HF2.out, List.nil_append] at S2h
            have S5 := hide S2h
            clear S2h T2h
            have SF := hide (show Sn 52 [.int .i64 (b : Int)] w2 (actL L b O) (actE L b O) wF by
              rw [show actL L b O = hitsL L b O by unfold actL; rw [hv]; rfl, show actE L b O = hitsE L b O by unfold actE; rw [hv]; rfl]
              exact (by rw [HL.out, HE.out]; exact S5.out))
            go_wp2
            go_meet
            exact ⟨rfl, SF.out⟩
        · have HL := hide (show hitsL L b O = L by unfold hitsL; rw [HW.out, hc])
          have HE := hide (show hitsE L b O = [tellE L b nobodyS] by unfold hitsE; rw [HW.out, hc])
          clear hc
          rw [List.nil_append] at S1h
          have S5 := hide S1h
          clear S1h T1h
          have SF := hide (show Sn 52 [.int .i64 (b : Int)] w2 (actL L b O) (actE L b O) w4 by
            rw [show actL L b O = hitsL L b O by unfold actL; rw [hv]; rfl, show actE L b O = hitsE L b O by unfold actE; rw [hv]; rfl]
            exact (by rw [HL.out, HE.out]; exact S5.out))
          go_wp2
          go_meet
          exact ⟨rfl, SF.out⟩
      · have HW := hide (show hitW L b O = none by unfold hitW; rw [if_neg hg])
        have HL := hide (show hitsL L b O = L by unfold hitsL; rw [HW.out])
        have HE := hide (show hitsE L b O = [tellE L b nobodyS] by unfold hitsE; rw [HW.out])
        have hg2 : (O.nth != 1) = true ∨ ((O.nth != 1) = false ∧ O.all = true) := by
          by_cases h : O.nth = 1
          · exact .inr ⟨by simp [h], by cases h4 : O.all with
              | true => rfl
              | false => exact absurd ⟨h, h4⟩ hg⟩
          · exact .inl (by simp [h])
        have hno : whoL L b ⟨#[]⟩ = none := rfl
        clear hg
        rcases hg2 with hnb | ⟨hnb, h4⟩
        all_goals
          (try rw [h4] at o2)
          go_wp2_with fail
          refine (personof_any S3.out hb ⟨#[]⟩ (by decide) (by simp)).mono ?_
          rintro e w4 h
          rcases h with ⟨c, hc, rfl, S1h, T1h⟩ | ⟨hc, rfl, S1h, T1h⟩
          · rw [hno] at hc; simp at hc
          · clear hc hno o1 o2 o3
            rw [List.nil_append] at S1h
            have S5 := hide S1h
            clear S1h T1h
            have SF := hide (show Sn 52 [.int .i64 (b : Int)] w2 (actL L b O) (actE L b O) w4 by
              rw [show actL L b O = hitsL L b O by unfold actL; rw [hv]; rfl, show actE L b O = hitsE L b O by unfold actE; rw [hv]; rfl]
              exact (by rw [HL.out, HE.out]; exact S5.out))
            go_wp2
            go_meet
            exact ⟨rfl, SF.out⟩
    · rw [hv] at o0 ⊢
      go_wp2_with fail
      refine (tadd_none S3.out hb 18 0 0 ⟨#[]⟩ ⟨#[]⟩ (by simp)).mono ?_
      rintro e w4 ⟨rfl, S4h, T4h⟩
      rw [List.nil_append, add_evN] at S4h
      have S4 := hide S4h
      clear S4h T4h S3
      go_wp2_with fail
      refine (leave_any S4.out HF.out hb).mono ?_
      rintro e w5 ⟨rfl, S5h, T5h⟩
      have S5 := hide S5h
      clear S5h T5h S4
      have hw := S5.out.whole b hb ⟨#[]⟩ false false 0 0 0
      have S6 := hide hw.1
      clear hw
      go_wp2_with (refine wl_whole (.tmp 138) (.tmp 134) rfl rfl b hb ⟨#[]⟩ false false 0 0 0 rfl rfl S5.out ?_)
      generalize w5.setCells w2.heap.size (129 + b * 6) [.string ⟨#[]⟩, .bool false, .bool false, .int .i64 0, .int .i64 0, .int .i64 0] = wF at S6 ⊢
      have SF := hide (show Sn 52 [.int .i64 (b : Int)] w2 (actL L b O) (actE L b O) wF by
        rw [show actL L b O = zeroB (letGoL L b) b by unfold actL; rw [hv]; rfl, show actE L b O = [allE L (evN L 18 b)] by unfold actE; rw [hv]; rfl]
        exact S6.out)
      go_meet
      exact ⟨rfl, SF.out⟩
  case rest =>
    obtain ⟨rfl, SF0⟩ := hcut
    rw [HX.out, HFS.out] at SF0
    have SF := hide SF0
    clear SF0 S3 D3 o0
    obtain ⟨v, hv, ho⟩ := SF.out.ex
    obtain ⟨av, cap, rfl⟩ := shapeE ho
    have HR : Ht w2.heap.size L' (.slice av Fs.length cap) wc.drew := ⟨SF.out.land, by
      show wc.cell? _ = _
      rw [cell_of_row _ _ _ _ _ _ hv]; exact more_row L' [.int .i64 (b : Int)] _⟩
    have RR : wc.drew.heap[w.heap.size + 1 + 1]? = some (.cells zl.cells 34 (0, 0)) := by
      show wc.heap[w.heap.size + 1 + 1]? = _
      rw [SF.out.low.block _ (by have := K3.out; omega)]; exact D2.out.res
    have OW : wc.drew.ownsRow (w2.heap.size + 1) 62 16 (.slice av Fs.length cap) Fs.length (evc Fs) := ho
    have BB : Below w.heap.size w wc.drew := (D2.out.low.trans (SF.out.low.mono D2.out.low.size)).drew
    have hne : w2.heap.size ≠ w.heap.size + 1 + 1 := by have := K3.out; omega
    have hgt : w.heap.size + 1 + 1 < w2.heap.size := K3.out.2
    clear SF hv ho D2 K3
    go_wp2_with fail
    refine wp_region_held (S := Ht w2.heap.size L' (.slice av Fs.length cap)) (by kernel_rfl) ?_
    change wpAnyH _ _ _ _ _ _ _ _ wc.drew
    generalize wc.drew = W0 at HR RR OW BB ⊢
    refine tw (i := 0) (d := some 139) (fuel := 10) (v := ?_) rfl rfl ?_ HR ?_
    rotate_left
    · intro W hW
      have hc := hW.row
      go_simp
      try with_reducible rfl
    simp only [Act.put, sT, List.set]
    refine tw (i := 1) (d := some 140) (fuel := 9) (v := ?_) rfl rfl ?_ HR ?_
    rotate_left
    · intro W hW
      have hc := hW.row
      go_simp
      try with_reducible rfl
    simp only [Act.put, sT, List.set]
    refine tw (i := 2) (d := some 141) (fuel := 8) (v := ?_) rfl rfl ?_ HR ?_
    rotate_left
    · intro W hW
      have hc := hW.row
      go_simp
      try with_reducible rfl
    simp only [Act.put, sT, List.set]
    refine tk (i := 3) (d := some 142) (fuel := 7) (v := .agg L'.cells) rfl rfl (Or.inl ⟨by rfl, fun W hW => exec_land' (.tmp 141) rfl rfl hW.land⟩) HR ?_
    simp only [Act.put, sT, List.set]
    refine tw (i := 4) (d := some 143) (fuel := 6) (v := ?_) rfl rfl ?_ HR ?_
    rotate_left
    · intro W hW
      have hc := hW.row
      go_simp
      try with_reducible rfl
    simp only [Act.put, sT, List.set]
    refine tw (i := 5) (d := some 144) (fuel := 5) (v := ?_) rfl rfl ?_ HR ?_
    rotate_left
    · intro W hW
      have hc := hW.row
      go_simp
      try with_reducible rfl
    simp only [Act.put, sT, List.set]
    refine tw (i := 6) (d := some 145) (fuel := 4) (v := ?_) rfl rfl ?_ HR ?_
    rotate_left
    · intro W hW
      have hc := hW.row
      go_simp
      try with_reducible rfl
    simp only [Act.put, sT, List.set]
    refine tw (i := 7) (d := some 146) (fuel := 3) (v := ?_) rfl rfl ?_ HR ?_
    rotate_left
    · intro W hW
      have hc := hW.row
      go_simp
      try with_reducible rfl
    simp only [Act.put, sT, List.set]
    refine wpAnyH_all (fuel := 2) (rs := [8]) (by kernel_rfl) (by simp) ?_
    intro i hi
    obtain rfl : i = 8 := by simpa using hi
    clear hi
    refine skip_at (d := none) rfl rfl (by rfl) (exec_storeland (.tmp 6) (.tmp 142) rfl (k := (w.heap.size + 1 + 1)) (L := L') (old := zl.cells) rfl rfl RR zl.size) ?_
    have HR2 := HR.setRow hne (cs := L'.cells)
    refine ⟨HR2, ?_⟩
    simp only [Act.put]
    refine tw (i := 9) (d := some 7) (fuel := 1) (v := ?_) rfl rfl ?_ HR2 ?_
    rotate_left
    · intro W hW; go_simp; try with_reducible rfl
    simp only [Act.put, sT, List.set]
    refine tw (i := 10) (d := some 8) (fuel := 0) (v := ?_) rfl rfl ?_ HR2 ?_
    rotate_left
    · intro W hW; go_simp; try with_reducible rfl
    simp only [Act.put, sT, List.set]
    refine wpAnyH_done (by kernel_rfl) ?_ _
    go_wp2
    refine bodyPost_ret (v := .tuple #[.agg L'.cells, .slice av Fs.length cap, .int .i64 0]) (res_land rfl _ _ (w.heap.size + 1 + 1) L' _ _ rfl rfl rfl (setRow_heap _ _ _ _ _ _ RR)) rfl ⟨_, rfl, own_setRow OW ⟨by omega, by omega⟩, below_setRow BB (by omega) _⟩
end Go.Proofs.YtaifjndkgfffpaaGreatDoor
