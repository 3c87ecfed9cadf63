/-
  The document's own Act, at verbs 0, 1, 2, 3, 4, 5, 6: the contract. Written by a program.
-/
import Derived.Test.YtaifjndkgfffpaaGreatDoorRfActP
import Derived.Deep.CutBlock
import Derived.Test.YtaifjndkgfffpaaGreatDoorRfWalk
namespace Go.Proofs.YtaifjndkgfffpaaGreatDoor
open Go.RowKit
set_option linter.unusedVariables false

set_option maxRecDepth 100000 in
set_option maxHeartbeats 8000000 in
theorem actof_A (L : Ld) (b : Nat) (hb : b < 6) (O : Od) (hvb : O.verb = 0 ∨ O.verb = 1 ∨ O.verb = 2 ∨ O.verb = 3 ∨ O.verb = 4 ∨ O.verb = 5 ∨ O.verb = 6) (w : World) (L' : Ld) (Fs : List Ev) (hX : actL L b O = L') (hFs : actE L b O = Fs) (hvr : Vr w) (hf : Fine L) (hg : goodL L = true) (hh : L.here b = true) (hs1 : O.name.size ≤ 8796093022207) (hs2 : O.second.size ≤ 8796093022207) (hn0 : -9223372036854775808 ≤ O.nth) (hn1 : O.nth ≤ 9223372036854775807) :
    Calls Tryz.prog 5 #[.agg L.cells, .int .i64 (b : Int), .agg O.cells] w fun e w' => ∃ v, e = .returned (.tuple #[.agg L'.cells, v, .int .i64 0]) ∧ w'.ownsRow w.heap.size 62 16 v Fs.length (evc Fs) ∧ Below w.heap.size w w' := by
  have hz := (zero_of_info Tryz.zLand).1
  have hrg : refG L = true := by rw [refG_eq]; exact hg
  have hbi : (b : Int) < 6 := by omega
  have D0 := hide (do_start L O w)
  have HVB := hide hvb
  have HVR := hide hvr
  have HF := hide hf
  have HG := hide hg
  have HX := hide hX
  have HFS := hide hFs
  have HAB := hide (show abtL L (b : Int) = true by unfold abtL; rw [amg_mk (by omega) (by omega)]; simpa using hh)
  clear hvb hvr hf hg hX hFs hh
  go_enter Tryz.func5, Tryz.ntmps5
  go_wp2_with (refine wl_land (.tmp 3) rfl rfl _ L rfl D0.out.cod ?_)
  refine (goodland_any L _).mono ?_
  rintro e w1 ⟨rfl, hb1⟩
  have D1 := hide (D0.out.call hb1)
  rw [hrg]
  clear hb1 D0 hrg
  go_wp2_with (refine wl_land (.tmp 3) rfl rfl _ L rfl D1.out.cod ?_)
  refine (about_any L (b : Int) _).mono ?_
  rintro e w2 ⟨rfl, hb2⟩
  have D2 := hide (D1.out.call hb2)
  rw [HAB.out]
  clear hb2 D1 HAB
  have cv : w2.cell? ⟨w.heap.size + 1, 0, none⟩ = some (.int .i64 O.verb) := by rw [cell_of_row _ _ _ _ _ _ D2.out.ord]; rfl
  have hv0 : decide (O.verb < 0) = false := by rcases HVB.out with h | h | h | h | h | h | h <;> rw [h] <;> rfl
  have hv1 : decide (20 < O.verb) = false := by rcases HVB.out with h | h | h | h | h | h | h <;> rw [h] <;> rfl
  have S3 : Hid (Sn 52 [.int .i64 (b : Int)] w2 L [] (w2.alloc (.cells (L.more [.int .i64 (b : Int)] (.slice none 0 0)) 52))) := tn_start L _ w2
  have D3 := hide (D2.out.call (below_box w2 (.cells (L.more [.int .i64 (b : Int)] (.slice none 0 0)) 52)))
  have K3 := hide (show w.heap.size + 1 < w2.heap.size ∧ w.heap.size + 1 + 1 < w2.heap.size from ⟨(Array.getElem?_eq_some_iff.1 D2.out.ord).1, (Array.getElem?_eq_some_iff.1 D2.out.res).1⟩)
  have VR := hide (HVR.out.below D2.out.low (Nat.le_refl _))
  go_upto_region 8 with (first | (refine wl_land (.tmp 3) rfl rfl _ L rfl D2.out.cod ?_) | (refine wl_build 52 #[(0, .tmp 30), (1, .tmp 31)] rfl ?hh _ _ (built_turn_at L (b : Int)) ?hv ?_))
  generalize w2.alloc (.cells (L.more [.int .i64 (b : Int)] (.slice none 0 0)) 52) = w3 at S3 D3 ⊢
  clear cv
  have o0 : w3.cell? ⟨w.heap.size + 1, 0, none⟩ = some (.int .i64 O.verb) := by rw [cell_of_row _ _ _ _ _ _ D3.out.ord]; rfl
  go_upto_block 0 with fail
  go_cut [9] from 10 to 146 (fun p wc => p = .pointer (some ⟨w2.heap.size, 0, none⟩) ∧ Sn 52 [.int .i64 (b : Int)] w2 (actL L b O) (actE L b O) wc)
  case first =>
    have hvb := HVB.out
    clear D2 HX HFS HVB hv0 hv1
    rcases hvb with hv | hv | hv | hv | hv | hv | hv
    · rw [hv] at o0 ⊢
      go_wp2_with fail
      refine (twalk_any S3.out HF.out HG.out VR.out hb 0 (by omega) (by simp)).mono ?_
      rintro e wF ⟨rfl, S4h, T4h⟩
      rw [List.nil_append] at S4h
      have S4 := hide S4h
      clear S4h T4h
      have SF := hide (show Sn 52 [.int .i64 (b : Int)] w2 (actL L b O) (actE L b O) wF by
        rw [show actL L b O = walkL L b 0 by unfold actL; rw [hv]; rfl, show actE L b O = walkE L b 0 by unfold actE; rw [hv]; rfl]
        exact S4.out)
      go_wp2
      go_meet
      exact ⟨rfl, SF.out⟩
    · rw [hv] at o0 ⊢
      go_wp2_with fail
      refine (twalk_any S3.out HF.out HG.out VR.out hb 1 (by omega) (by simp)).mono ?_
      rintro e wF ⟨rfl, S4h, T4h⟩
      rw [List.nil_append] at S4h
      have S4 := hide S4h
      clear S4h T4h
      have SF := hide (show Sn 52 [.int .i64 (b : Int)] w2 (actL L b O) (actE L b O) wF by
        rw [show actL L b O = walkL L b 1 by unfold actL; rw [hv]; rfl, show actE L b O = walkE L b 1 by unfold actE; rw [hv]; rfl]
        exact S4.out)
      go_wp2
      go_meet
      exact ⟨rfl, SF.out⟩
    · rw [hv] at o0 ⊢
      go_wp2_with fail
      refine (twalk_any S3.out HF.out HG.out VR.out hb 2 (by omega) (by simp)).mono ?_
      rintro e wF ⟨rfl, S4h, T4h⟩
      rw [List.nil_append] at S4h
      have S4 := hide S4h
      clear S4h T4h
      have SF := hide (show Sn 52 [.int .i64 (b : Int)] w2 (actL L b O) (actE L b O) wF by
        rw [show actL L b O = walkL L b 2 by unfold actL; rw [hv]; rfl, show actE L b O = walkE L b 2 by unfold actE; rw [hv]; rfl]
        exact S4.out)
      go_wp2
      go_meet
      exact ⟨rfl, SF.out⟩
    · rw [hv] at o0 ⊢
      go_wp2_with fail
      refine (twalk_any S3.out HF.out HG.out VR.out hb 3 (by omega) (by simp)).mono ?_
      rintro e wF ⟨rfl, S4h, T4h⟩
      rw [List.nil_append] at S4h
      have S4 := hide S4h
      clear S4h T4h
      have SF := hide (show Sn 52 [.int .i64 (b : Int)] w2 (actL L b O) (actE L b O) wF by
        rw [show actL L b O = walkL L b 3 by unfold actL; rw [hv]; rfl, show actE L b O = walkE L b 3 by unfold actE; rw [hv]; rfl]
        exact S4.out)
      go_wp2
      go_meet
      exact ⟨rfl, SF.out⟩
    · rw [hv] at o0 ⊢
      go_wp2_with fail
      refine (twalk_any S3.out HF.out HG.out VR.out hb 4 (by omega) (by simp)).mono ?_
      rintro e wF ⟨rfl, S4h, T4h⟩
      rw [List.nil_append] at S4h
      have S4 := hide S4h
      clear S4h T4h
      have SF := hide (show Sn 52 [.int .i64 (b : Int)] w2 (actL L b O) (actE L b O) wF by
        rw [show actL L b O = walkL L b 4 by unfold actL; rw [hv]; rfl, show actE L b O = walkE L b 4 by unfold actE; rw [hv]; rfl]
        exact S4.out)
      go_wp2
      go_meet
      exact ⟨rfl, SF.out⟩
    · rw [hv] at o0 ⊢
      go_wp2_with fail
      refine (twalk_any S3.out HF.out HG.out VR.out hb 5 (by omega) (by simp)).mono ?_
      rintro e wF ⟨rfl, S4h, T4h⟩
      rw [List.nil_append] at S4h
      have S4 := hide S4h
      clear S4h T4h
      have SF := hide (show Sn 52 [.int .i64 (b : Int)] w2 (actL L b O) (actE L b O) wF by
        rw [show actL L b O = walkL L b 5 by unfold actL; rw [hv]; rfl, show actE L b O = walkE L b 5 by unfold actE; rw [hv]; rfl]
        exact S4.out)
      go_wp2
      go_meet
      exact ⟨rfl, SF.out⟩
    · rw [hv] at o0 ⊢
      go_wp2_with fail
      refine (tlook_any S3.out HF.out VR.out hb (by simp)).mono ?_
      rintro e wF ⟨rfl, S4h, T4h⟩
      rw [List.nil_append] at S4h
      have S4 := hide S4h
      clear S4h T4h
      have SF := hide (show Sn 52 [.int .i64 (b : Int)] w2 (actL L b O) (actE L b O) wF by
        rw [show actL L b O = L by unfold actL; rw [hv]; rfl, show actE L b O = lookE L b by unfold actE; rw [hv]; rfl]
        exact S4.out)
      go_wp2
      go_meet
      exact ⟨rfl, SF.out⟩
  case rest =>
    obtain ⟨rfl, SF0⟩ := hcut
    rw [HX.out, HFS.out] at SF0
    have SF := hide SF0
    clear SF0 S3 D3 o0
    obtain ⟨v, hv, ho⟩ := SF.out.ex
    obtain ⟨av, cap, rfl⟩ := shapeE ho
    have HR : Ht w2.heap.size L' (.slice av Fs.length cap) wc.drew := ⟨SF.out.land, by
      show wc.cell? _ = _
      rw [cell_of_row _ _ _ _ _ _ hv]; exact more_row L' [.int .i64 (b : Int)] _⟩
    have RR : wc.drew.heap[w.heap.size + 1 + 1]? = some (.cells zl.cells 34 (0, 0)) := by
      show wc.heap[w.heap.size + 1 + 1]? = _
      rw [SF.out.low.block _ (by have := K3.out; omega)]; exact D2.out.res
    have OW : wc.drew.ownsRow (w2.heap.size + 1) 62 16 (.slice av Fs.length cap) Fs.length (evc Fs) := ho
    have BB : Below w.heap.size w wc.drew := (D2.out.low.trans (SF.out.low.mono D2.out.low.size)).drew
    have hne : w2.heap.size ≠ w.heap.size + 1 + 1 := by have := K3.out; omega
    have hgt : w.heap.size + 1 + 1 < w2.heap.size := K3.out.2
    clear SF hv ho D2 K3
    go_wp2_with fail
    refine wp_region_held (S := Ht w2.heap.size L' (.slice av Fs.length cap)) (by kernel_rfl) ?_
    change wpAnyH _ _ _ _ _ _ _ _ wc.drew
    generalize wc.drew = W0 at HR RR OW BB ⊢
    refine tw (i := 0) (d := some 139) (fuel := 10) (v := ?_) rfl rfl ?_ HR ?_
    rotate_left
    · intro W hW
      have hc := hW.row
      go_simp
      try with_reducible rfl
    simp only [Act.put, sT, List.set]
    refine tw (i := 1) (d := some 140) (fuel := 9) (v := ?_) rfl rfl ?_ HR ?_
    rotate_left
    · intro W hW
      have hc := hW.row
      go_simp
      try with_reducible rfl
    simp only [Act.put, sT, List.set]
    refine tw (i := 2) (d := some 141) (fuel := 8) (v := ?_) rfl rfl ?_ HR ?_
    rotate_left
    · intro W hW
      have hc := hW.row
      go_simp
      try with_reducible rfl
    simp only [Act.put, sT, List.set]
    refine tk (i := 3) (d := some 142) (fuel := 7) (v := .agg L'.cells) rfl rfl (Or.inl ⟨by rfl, fun W hW => exec_land' (.tmp 141) rfl rfl hW.land⟩) HR ?_
    simp only [Act.put, sT, List.set]
    refine tw (i := 4) (d := some 143) (fuel := 6) (v := ?_) rfl rfl ?_ HR ?_
    rotate_left
    · intro W hW
      have hc := hW.row
      go_simp
      try with_reducible rfl
    simp only [Act.put, sT, List.set]
    refine tw (i := 5) (d := some 144) (fuel := 5) (v := ?_) rfl rfl ?_ HR ?_
    rotate_left
    · intro W hW
      have hc := hW.row
      go_simp
      try with_reducible rfl
    simp only [Act.put, sT, List.set]
    refine tw (i := 6) (d := some 145) (fuel := 4) (v := ?_) rfl rfl ?_ HR ?_
    rotate_left
    · intro W hW
      have hc := hW.row
      go_simp
      try with_reducible rfl
    simp only [Act.put, sT, List.set]
    refine tw (i := 7) (d := some 146) (fuel := 3) (v := ?_) rfl rfl ?_ HR ?_
    rotate_left
    · intro W hW
      have hc := hW.row
      go_simp
      try with_reducible rfl
    simp only [Act.put, sT, List.set]
    refine wpAnyH_all (fuel := 2) (rs := [8]) (by kernel_rfl) (by simp) ?_
    intro i hi
    obtain rfl : i = 8 := by simpa using hi
    clear hi
    refine skip_at (d := none) rfl rfl (by rfl) (exec_storeland (.tmp 6) (.tmp 142) rfl (k := (w.heap.size + 1 + 1)) (L := L') (old := zl.cells) rfl rfl RR zl.size) ?_
    have HR2 := HR.setRow hne (cs := L'.cells)
    refine ⟨HR2, ?_⟩
    simp only [Act.put]
    refine tw (i := 9) (d := some 7) (fuel := 1) (v := ?_) rfl rfl ?_ HR2 ?_
    rotate_left
    · intro W hW; go_simp; try with_reducible rfl
    simp only [Act.put, sT, List.set]
    refine tw (i := 10) (d := some 8) (fuel := 0) (v := ?_) rfl rfl ?_ HR2 ?_
    rotate_left
    · intro W hW; go_simp; try with_reducible rfl
    simp only [Act.put, sT, List.set]
    refine wpAnyH_done (by kernel_rfl) ?_ _
    go_wp2
    refine bodyPost_ret (v := .tuple #[.agg L'.cells, .slice av Fs.length cap, .int .i64 0]) (res_land rfl _ _ (w.heap.size + 1 + 1) L' _ _ rfl rfl rfl (setRow_heap _ _ _ _ _ _ RR)) rfl ⟨_, rfl, own_setRow OW ⟨by omega, by omega⟩, below_setRow BB (by omega) _⟩
end Go.Proofs.YtaifjndkgfffpaaGreatDoor
