/-
  Round: its contract. Written by a program.
-/
import Derived.Test.YtaifjndkgfffpaaDoorMgO
import Derived.Test.YtaifjndkgfffpaaDoorMgG
namespace Go.Proofs.YtaifjndkgfffpaaDoor
open Go.RowKit
set_option linter.unusedVariables false

/-- What lies where Round has entered. -/
structure RnRel (L : Ld) (w w1 : World) : Prop where
  cod : Cod w1 w.heap.size L
  res : w1.heap[w.heap.size + 1]? = some (.cells zl.cells 34 (0, 0))
  low : Below w.heap.size w w1
theorem rn_start (L : Ld) (w : World) : RnRel L w ((w.alloc (.cells L.cells 34)).alloc (.cells zl.cells 34)) := by
  refine ⟨(cod_new w L).alloc (.cells zl.cells 34), ?_, (below_box w (.cells L.cells 34)).alloc (by simp) (.cells zl.cells 34)⟩
  have := heap_alloc_new (w.alloc (.cells L.cells 34)) (.cells zl.cells 34)
  rw [World.size_alloc] at this; exact this
theorem RnRel.call {L : Ld} {w w1 w2 : World} (h : RnRel L w w1) (hb : Below w1.heap.size w1 w2) : RnRel L w w2 := by
  have hl := (Array.getElem?_eq_some_iff.1 h.res).1
  exact ⟨h.cod.behind hb (Nat.le_refl _), by rw [hb.block _ (by omega)]; exact h.res, h.low.trans (hb.mono h.low.size)⟩

set_option maxRecDepth 100000 in
set_option maxHeartbeats 4000000 in
theorem round_bad (L : Ld) (draw : Int) (w : World) (hwf : Wf L) (hg : goodL L = false) :
    Calls Tryd.prog 15 #[.agg L.cells, .int .i64 draw] w fun e w' => e = .returned (.tuple #[.agg L.cells, .slice none 0 0, .int .i64 2]) ∧ Below w.heap.size w w' := by
  have hz := (zero_of_info Tryd.zLand).1
  have D0 := hide (rn_start L w)
  go_enter Tryd.func15, Tryd.ntmps15
  go_wp2_with (refine wl_land (.tmp 2) rfl rfl _ L rfl D0.out.cod ?_)
  refine (good_any L _ hwf).mono ?_
  rintro e w1 ⟨rfl, hb1⟩
  have D1 := hide (D0.out.call hb1)
  rw [hg]
  clear hb1 D0
  go_wp2_with (first | (refine wl_land (.tmp 2) rfl rfl _ L rfl D1.out.cod ?_) | (refine wl_row 34 (.tmp 4) (.tmp 12) rfl rfl (w.heap.size + 1) L.cells rfl rfl 34 zl.cells D1.out.res (by rw [L.size]; exact Tryd.sizeLand) (by rw [L.size, zl.size]) (land_one L) ?_))
  exact bodyPost_ret (v := .tuple #[.agg L.cells, .slice none 0 0, .int .i64 2]) (res_land rfl _ _ (w.heap.size + 1) L _ _ rfl rfl rfl (setRow_heap _ _ _ _ _ _ D1.out.res)) rfl ⟨rfl, below_setRow D1.out.low (by omega) _⟩

set_option maxRecDepth 100000 in
set_option maxHeartbeats 4000000 in
theorem round_any (L : Ld) (draw : Int) (w : World) (L' : Ld) (Fs : List Ev) (hX : (roundK L (drawN draw) 6).1 = L') (hFs : (roundK L (drawN draw) 6).2 = Fs) (hvb : Vb w) (hwf : Wf L) (hf : Fine L) (hg : goodL L = true) :
    Calls Tryd.prog 15 #[.agg L.cells, .int .i64 draw] w fun e w' => ∃ v, e = .returned (.tuple #[.agg L'.cells, v, .int .i64 0]) ∧ w'.ownsRow w.heap.size 52 16 v Fs.length (evc Fs) ∧ Below w.heap.size w w' := by
  have hz := (zero_of_info Tryd.zLand).1
  obtain ⟨hdr, hd3, hdl, hdu⟩ := draw_eq draw
  have hwd : wrap64 (draw.tmod 3 + 3) = draw.tmod 3 + 3 := by simp only [wrap64]; omega
  have HRG := hide (round_good hg (drawN draw))
  generalize drawN draw = dr at *
  have HVB := hide hvb
  have HF := hide hf
  have HXX := hide hX
  have HFF := hide hFs
  have D0 := hide (rn_start L w)
  clear hvb hf hX hFs
  go_enter Tryd.func15, Tryd.ntmps15
  go_wp2_with (refine wl_land (.tmp 2) rfl rfl _ L rfl D0.out.cod ?_)
  refine (good_any L _ hwf).mono ?_
  rintro e w1 ⟨rfl, hb1⟩
  have D1 := hide (D0.out.call hb1)
  rw [hg]
  clear hb1 D0 hg
  go_wp2_with (first | (refine wl_land (.tmp 2) rfl rfl _ L rfl D1.out.cod ?_) | (refine wl_build 62 #[(0, .tmp 17)] rfl ?hh _ _ (built_scene L) ?hv ?_))
  go_loopw [20] (fun c wr => ∃ k : Nat, k ≤ 6 ∧ c = .int .i64 k ∧ Sn 62 [] w1 (roundK L dr k).1 (roundK L dr k).2 wr) (fun c _ => 6 - (intOf c).toNat)
  case atStart => exact ⟨0, by omega, rfl, sn_start L w1⟩
  case round =>
    obtain ⟨k, hle, rfl, Rh⟩ := hrel
    have R := hide Rh
    clear Rh
    by_cases hk : k < 6
    · have hki : (k : Int) < 6 := by omega
      have c5 := R.out.being k 5 hk (by omega)
      simp only [Ld.beingCell] at c5
      have hG := HRG.out k (by omega)
      have hFk := hide (hG.2.fine HF.out hG.1)
      have hGk := hide hG.1
      have hlk := round_len L dr k
      have V1 := hide (HVB.out.below D1.out.low (Nat.le_refl _))
      by_cases h0 : (roundK L dr k).1.foe k = 0
      · have hb0 : ((roundK L dr k).1.foe k != 0) = false := by simp [h0]
        have HN := hide (show roundK L dr (k + 1) = roundK L dr k by simp only [roundK]; rw [if_pos h0])
        clear h0 hG
        generalize roundK L dr k = Z at *
        go_wp2
        go_roundw
        case rel => exact ⟨k + 1, by omega, by go_num, by rw [HN.out]; exact R.out⟩
        case measure => simp [intOf]; omega
      · have hb0 : ((roundK L dr k).1.foe k != 0) = true := by simp [h0]
        have HN := hide (show roundK L dr (k + 1) = (fightL (roundK L dr k).1 k (blowN dr k), (roundK L dr k).2 ++ fightE (roundK L dr k).1 k (blowN dr k)) by simp only [roundK]; rw [if_neg h0])
        have H0 := hide h0
        have hk1 : wrap64 ((dr : Int) + (k : Int)) = (dr : Int) + (k : Int) := by simp only [wrap64]; omega
        have hk2 : ((dr : Int) + (k : Int)).tmod 3 = (((dr + k) % 3 : Nat) : Int) := by
          rw [Int.tmod_eq_emod_of_nonneg (by omega)]; omega
        have hk3 : wrap64 (1 + (((dr + k) % 3 : Nat) : Int)) = 1 + (((dr + k) % 3 : Nat) : Int) := by simp only [wrap64]; omega
        have HBN := hide (show blowN dr k = 1 + (((dr + k) % 3 : Nat) : Int) from rfl)
        have hbp := blow_pos dr k
        clear h0 hG
        generalize roundK L dr k = Z at *
        generalize hq : (((dr + k) % 3 : Nat) : Int) = q3 at *
        go_wp2_with fail
        have CF := rfight_any R.out hFk.out hGk.out V1.out k hk (blowN dr k) hbp.1 hbp.2 H0.out (by omega)
        rw [HBN.out] at CF
        refine CF.mono ?_
        clear CF
        rintro e w2 ⟨rfl, S2h, T2h⟩
        have S2 := hide S2h
        clear S2h T2h R
        go_wp2
        go_roundw
        case rel => exact ⟨k + 1, by omega, by go_num, by rw [HN.out, HBN.out]; exact S2.out⟩
        case measure => simp [intOf]; omega
    · have hk6 : k = 6 := by omega
      subst hk6
      have S2 := R.out
      rw [HXX.out, HFF.out] at S2
      obtain ⟨v, hv, ho⟩ := S2.ex
      obtain ⟨av, cap, rfl⟩ := shapeE ho
      have hlt1 : w.heap.size + 1 < w1.heap.size := (Array.getElem?_eq_some_iff.1 D1.out.res).1
      have HR : Hr w1.heap.size L' (.slice av Fs.length cap) wr.drew := ⟨S2.land, by
        show wr.cell? _ = _
        rw [cell_of_row _ _ _ _ _ _ hv]; exact more_row L' [] _⟩
      have RR : wr.drew.heap[w.heap.size + 1]? = some (.cells zl.cells 34 (0, 0)) := by
        show wr.heap[w.heap.size + 1]? = _
        rw [S2.low.block _ (by omega)]; exact D1.out.res
      have OW : wr.drew.ownsRow (w1.heap.size + 1) 52 16 (.slice av Fs.length cap) Fs.length (evc Fs) := ho
      have BB : Below w.heap.size w wr.drew := (D1.out.low.trans (S2.low.mono D1.out.low.size)).drew
      have hne : w1.heap.size ≠ w.heap.size + 1 := by omega
      clear S2 hv ho R D1 HRG
      go_wp2_with fail
      refine wp_region_held (S := Hr w1.heap.size L' (.slice av Fs.length cap)) (by kernel_rfl) ?_
      change wpAnyH _ _ _ _ _ _ _ _ wr.drew
      generalize wr.drew = W0 at *
      refine take_at (i := 0) (d := some 41) (fuel := 10) (v := ?_) rfl rfl (by kernel_rfl) (by kernel_rfl) (by kernel_rfl) (fun _ _ _ h => h) (Or.inl ⟨by rfl, ?_⟩) HR ?_
      rotate_left
      · intro W hW
        have hc := hW.row
        go_simp
        try with_reducible rfl
      simp only [Act.put, List.setIfInBounds_toArray, List.set]
      refine take_at (i := 1) (d := some 42) (fuel := 9) (v := ?_) rfl rfl (by kernel_rfl) (by kernel_rfl) (by kernel_rfl) (fun _ _ _ h => h) (Or.inl ⟨by rfl, ?_⟩) HR ?_
      rotate_left
      · intro W hW
        have hc := hW.row
        go_simp
        try with_reducible rfl
      simp only [Act.put, List.setIfInBounds_toArray, List.set]
      refine take_at (i := 2) (d := some 43) (fuel := 8) (v := ?_) rfl rfl (by kernel_rfl) (by kernel_rfl) (by kernel_rfl) (fun _ _ _ h => h) (Or.inl ⟨by rfl, ?_⟩) HR ?_
      rotate_left
      · intro W hW
        have hc := hW.row
        go_simp
        try with_reducible rfl
      simp only [Act.put, List.setIfInBounds_toArray, List.set]
      refine take_at (i := 3) (d := some 44) (fuel := 7) (v := .agg L'.cells) rfl rfl (by kernel_rfl) (by kernel_rfl) (by kernel_rfl) (fun _ _ _ h => h) (Or.inl ⟨by rfl, fun W hW => exec_land' (.tmp 43) rfl rfl hW.land⟩) HR ?_
      simp only [Act.put, List.setIfInBounds_toArray, List.set]
      refine take_at (i := 4) (d := some 45) (fuel := 6) (v := ?_) rfl rfl (by kernel_rfl) (by kernel_rfl) (by kernel_rfl) (fun _ _ _ h => h) (Or.inl ⟨by rfl, ?_⟩) HR ?_
      rotate_left
      · intro W hW
        have hc := hW.row
        go_simp
        try with_reducible rfl
      simp only [Act.put, List.setIfInBounds_toArray, List.set]
      refine take_at (i := 5) (d := some 46) (fuel := 5) (v := ?_) rfl rfl (by kernel_rfl) (by kernel_rfl) (by kernel_rfl) (fun _ _ _ h => h) (Or.inl ⟨by rfl, ?_⟩) HR ?_
      rotate_left
      · intro W hW
        have hc := hW.row
        go_simp
        try with_reducible rfl
      simp only [Act.put, List.setIfInBounds_toArray, List.set]
      refine take_at (i := 6) (d := some 47) (fuel := 4) (v := ?_) rfl rfl (by kernel_rfl) (by kernel_rfl) (by kernel_rfl) (fun _ _ _ h => h) (Or.inl ⟨by rfl, ?_⟩) HR ?_
      rotate_left
      · intro W hW
        have hc := hW.row
        go_simp
        try with_reducible rfl
      simp only [Act.put, List.setIfInBounds_toArray, List.set]
      refine take_at (i := 7) (d := some 48) (fuel := 3) (v := ?_) rfl rfl (by kernel_rfl) (by kernel_rfl) (by kernel_rfl) (fun _ _ _ h => h) (Or.inl ⟨by rfl, ?_⟩) HR ?_
      rotate_left
      · intro W hW
        have hc := hW.row
        go_simp
        try with_reducible rfl
      simp only [Act.put, List.setIfInBounds_toArray, List.set]
      refine wpAnyH_all (fuel := 2) (rs := [8]) (by kernel_rfl) (by simp) ?_
      intro i hi
      obtain rfl : i = 8 := by simpa using hi
      clear hi
      refine skip_at (d := none) rfl rfl (by rfl) (exec_storeland (.tmp 4) (.tmp 44) rfl (k := (w.heap.size + 1)) (L := L') (old := zl.cells) rfl rfl RR zl.size) ?_
      have HR2 := HR.setRow hne (cs := L'.cells)
      refine ⟨HR2, ?_⟩
      simp only [Act.put]
      refine take_at (i := 9) (d := some 5) (fuel := 1) (v := ?_) rfl rfl (by kernel_rfl) (by kernel_rfl) (by kernel_rfl) (fun _ _ _ h => h) (Or.inl ⟨by rfl, ?_⟩) HR2 ?_
      rotate_left
      · intro W hW
        go_simp
        try with_reducible rfl
      simp only [Act.put, List.setIfInBounds_toArray, List.set]
      refine take_at (i := 10) (d := some 6) (fuel := 0) (v := ?_) rfl rfl (by kernel_rfl) (by kernel_rfl) (by kernel_rfl) (fun _ _ _ h => h) (Or.inl ⟨by rfl, ?_⟩) HR2 ?_
      rotate_left
      · intro W hW
        go_simp
        try with_reducible rfl
      simp only [Act.put, List.setIfInBounds_toArray, List.set]
      refine wpAnyH_done (by kernel_rfl) ?_ _
      go_wp2
      refine bodyPost_ret (v := .tuple #[.agg L'.cells, .slice av Fs.length cap, .int .i64 0]) (res_land rfl _ _ (w.heap.size + 1) L' _ _ rfl rfl rfl (setRow_heap _ _ _ _ _ _ RR)) rfl ⟨_, rfl, own_setRow OW ⟨by omega, by omega⟩, below_setRow BB (by omega) _⟩
end Go.Proofs.YtaifjndkgfffpaaDoor
