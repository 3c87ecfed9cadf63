/-
  A player enters: the contract. Written by a program.
-/
import Derived.Test.YtaifjndkgfffpaaDoorRuEnter
import Derived.Test.YtaifjndkgfffpaaDoorMgO
namespace Go.Proofs.YtaifjndkgfffpaaDoor
open Go.RowKit
set_option linter.unusedVariables false

set_option maxRecDepth 100000 in
set_option maxHeartbeats 4000000 in
theorem enter_any (L L' : Ld) (Fs : List Ev) (nm : ByteArray) (k : Nat) (w : World) (hvb : Vb w) (hwf : Wf L) (hs : nm.size ≤ 140737488355328) (hg : goodL L = true) (hn : namedB nm = true) (ht : takenL L nm = false) (hk : k < 6) (hv : vacA L = ((k : Int), true))
    (hL : beginL (L.setBeing k nm true false 0 0 0) k = L') (hF : beginE L' k = Fs) (hf : Fine L') :
    Calls Tryd.prog 9 #[.agg L.cells, .string nm] w fun e w' => ∃ v, e = .returned (.tuple #[.agg L'.cells, .int .i64 (k : Int), v, .int .i64 0]) ∧ w'.ownsRow w.heap.size 52 16 v Fs.length (evc Fs) ∧ Below w.heap.size w w' := by
  have hz := (zero_of_info Tryd.zLand).1
  have HVB := hide hvb
  have HL := hide hL
  have HF := hide hF
  have HFI := hide hf
  have hki : (k : Int) < 6 := by omega
  clear hvb hL hF hf
  have D0 := hide (en_start L w)
  go_enter Tryd.func9, Tryd.ntmps9
  go_wp2_with (refine wl_land (.tmp 2) rfl rfl _ L rfl D0.out.cod ?_)
  refine (good_any L _ hwf).mono ?_
  rintro e w1 ⟨rfl, hb1⟩
  have D1 := hide (D0.out.call hb1)
  rw [hg]
  clear hb1 D0 hg
  go_wp2_with fail
  refine (rnamed_any nm _ hs).mono ?_
  rintro e w1' ⟨rfl, hw⟩
  rw [hw, hn]
  clear hw w1' hn
  go_wp2_with (refine wl_land (.tmp 2) rfl rfl _ L rfl D1.out.cod ?_)
  refine (rtaken_any L nm _).mono ?_
  rintro e w2 ⟨rfl, hb2⟩
  have D2 := hide (D1.out.call hb2)
  rw [ht]
  clear hb2 D1 ht
  go_wp2_with (refine wl_land (.tmp 2) rfl rfl _ L rfl D2.out.cod ?_)
  refine (rfree_any L _).mono ?_
  rintro e w3 ⟨rfl, hb3⟩
  have D3 := hide (D2.out.call hb3)
  rw [hv]
  simp only
  clear hb3 D2 hv
  have hw := (sn_start L w3).whole k hk nm true false 0 0 0
  have X := hide hw.1
  clear hw
  go_upto_region 10 with (first | (refine wl_land (.tmp 2) rfl rfl _ L rfl D3.out.cod ?_) | (refine wl_build 62 #[(0, .tmp 34)] rfl ?hh _ _ (built_scene L) ?hv ?_) | (refine wl_whole (.tmp 44) (.tmp 40) rfl rfl k hk nm true false 0 0 0 rfl rfl (sn_start L w3) ?_))
  generalize (w3.alloc (.cells (L.more [] (.slice none 0 0)) 62)).setCells w3.heap.size (129 + k * 6) [.string nm, .bool true, .bool false, .int .i64 0, .int .i64 0, .int .i64 0] = wq at X ⊢
  simp only [Act.put]
  go_wp2_with fail
  refine (rbegin_any X.out k hk (by rw [HL.out]; exact HFI.out) (HVB.out.below D3.out.low (Nat.le_refl _)) (by simp)).mono ?_
  rintro e w4 ⟨rfl, S4, T4⟩
  rw [HL.out, List.nil_append, HF.out] at S4
  obtain ⟨v, hv, ho⟩ := S4.ex
  obtain ⟨av, cap, rfl⟩ := shapeE ho
  have hlt1 : w.heap.size + 1 < w3.heap.size := (Array.getElem?_eq_some_iff.1 D3.out.res).1
  have HR : Hr w3.heap.size L' (.slice av Fs.length cap) w4.drew := ⟨S4.land, by
    show w4.cell? _ = _
    rw [cell_of_row _ _ _ _ _ _ hv]; exact more_row L' [] _⟩
  have RR : w4.drew.heap[w.heap.size + 1]? = some (.cells zl.cells 34 (0, 0)) := by
    show w4.heap[w.heap.size + 1]? = _
    rw [S4.low.block _ (by omega)]; exact D3.out.res
  have OW : w4.drew.ownsRow (w3.heap.size + 1) 52 16 (.slice av Fs.length cap) Fs.length (evc Fs) := ho
  have BB : Below w.heap.size w w4.drew := (D3.out.low.trans (S4.low.mono D3.out.low.size)).drew
  have hne : w3.heap.size ≠ w.heap.size + 1 := by omega
  clear S4 T4 hv ho D3 X HL HF HFI
  go_wp2_with fail
  refine wp_region_held (S := Hr w3.heap.size L' (.slice av Fs.length cap)) (by kernel_rfl) ?_
  change wpAnyH _ _ _ _ _ _ _ _ w4.drew
  generalize w4.drew = W0 at *
  refine take_at (i := 0) (d := some 48) (fuel := 12) (v := ?_) rfl rfl (by kernel_rfl) (by kernel_rfl) (by kernel_rfl) (fun _ _ _ h => h) (Or.inl ⟨by rfl, ?_⟩) HR ?_
  rotate_left
  · intro W hW
    have hc := hW.row
    go_simp
    try with_reducible rfl
  simp only [Act.put, List.setIfInBounds_toArray, List.set]
  refine take_at (i := 1) (d := some 49) (fuel := 11) (v := ?_) rfl rfl (by kernel_rfl) (by kernel_rfl) (by kernel_rfl) (fun _ _ _ h => h) (Or.inl ⟨by rfl, ?_⟩) HR ?_
  rotate_left
  · intro W hW
    have hc := hW.row
    go_simp
    try with_reducible rfl
  simp only [Act.put, List.setIfInBounds_toArray, List.set]
  refine take_at (i := 2) (d := some 50) (fuel := 10) (v := ?_) rfl rfl (by kernel_rfl) (by kernel_rfl) (by kernel_rfl) (fun _ _ _ h => h) (Or.inl ⟨by rfl, ?_⟩) HR ?_
  rotate_left
  · intro W hW
    have hc := hW.row
    go_simp
    try with_reducible rfl
  simp only [Act.put, List.setIfInBounds_toArray, List.set]
  refine take_at (i := 3) (d := some 51) (fuel := 9) (v := .agg L'.cells) rfl rfl (by kernel_rfl) (by kernel_rfl) (by kernel_rfl) (fun _ _ _ h => h) (Or.inl ⟨by rfl, fun W hW => exec_land' (.tmp 50) rfl rfl hW.land⟩) HR ?_
  simp only [Act.put, List.setIfInBounds_toArray, List.set]
  refine take_at (i := 4) (d := some 52) (fuel := 8) (v := ?_) rfl rfl (by kernel_rfl) (by kernel_rfl) (by kernel_rfl) (fun _ _ _ h => h) (Or.inl ⟨by rfl, ?_⟩) HR ?_
  rotate_left
  · intro W hW
    have hc := hW.row
    go_simp
    try with_reducible rfl
  simp only [Act.put, List.setIfInBounds_toArray, List.set]
  refine take_at (i := 5) (d := some 53) (fuel := 7) (v := ?_) rfl rfl (by kernel_rfl) (by kernel_rfl) (by kernel_rfl) (fun _ _ _ h => h) (Or.inl ⟨by rfl, ?_⟩) HR ?_
  rotate_left
  · intro W hW
    have hc := hW.row
    go_simp
    try with_reducible rfl
  simp only [Act.put, List.setIfInBounds_toArray, List.set]
  refine take_at (i := 6) (d := some 54) (fuel := 6) (v := ?_) rfl rfl (by kernel_rfl) (by kernel_rfl) (by kernel_rfl) (fun _ _ _ h => h) (Or.inl ⟨by rfl, ?_⟩) HR ?_
  rotate_left
  · intro W hW
    have hc := hW.row
    go_simp
    try with_reducible rfl
  simp only [Act.put, List.setIfInBounds_toArray, List.set]
  refine take_at (i := 7) (d := some 55) (fuel := 5) (v := ?_) rfl rfl (by kernel_rfl) (by kernel_rfl) (by kernel_rfl) (fun _ _ _ h => h) (Or.inl ⟨by rfl, ?_⟩) HR ?_
  rotate_left
  · intro W hW
    have hc := hW.row
    go_simp
    try with_reducible rfl
  simp only [Act.put, List.setIfInBounds_toArray, List.set]
  refine take_at (i := 8) (d := some 56) (fuel := 4) (v := ?_) rfl rfl (by kernel_rfl) (by kernel_rfl) (by kernel_rfl) (fun _ _ _ h => h) (Or.inl ⟨by rfl, ?_⟩) HR ?_
  rotate_left
  · intro W hW
    have hc := hW.row
    go_simp
    try with_reducible rfl
  simp only [Act.put, List.setIfInBounds_toArray, List.set]
  refine wpAnyH_all (fuel := 3) (rs := [9]) (by kernel_rfl) (by simp) ?_
  intro i hi
  obtain rfl : i = 9 := by simpa using hi
  clear hi
  refine skip_at (d := none) rfl rfl (by rfl) (exec_storeland (.tmp 4) (.tmp 51) rfl (k := (w.heap.size + 1)) (L := L') (old := zl.cells) rfl rfl RR zl.size) ?_
  have HR2 := HR.setRow hne (cs := L'.cells)
  refine ⟨HR2, ?_⟩
  simp only [Act.put]
  refine take_at (i := 10) (d := some 5) (fuel := 2) (v := ?_) rfl rfl (by kernel_rfl) (by kernel_rfl) (by kernel_rfl) (fun _ _ _ h => h) (Or.inl ⟨by rfl, ?_⟩) HR2 ?_
  rotate_left
  · intro W hW
    go_simp
    try with_reducible rfl
  simp only [Act.put, List.setIfInBounds_toArray, List.set]
  refine take_at (i := 11) (d := some 6) (fuel := 1) (v := ?_) rfl rfl (by kernel_rfl) (by kernel_rfl) (by kernel_rfl) (fun _ _ _ h => h) (Or.inl ⟨by rfl, ?_⟩) HR2 ?_
  rotate_left
  · intro W hW
    go_simp
    try with_reducible rfl
  simp only [Act.put, List.setIfInBounds_toArray, List.set]
  refine take_at (i := 12) (d := some 7) (fuel := 0) (v := ?_) rfl rfl (by kernel_rfl) (by kernel_rfl) (by kernel_rfl) (fun _ _ _ h => h) (Or.inl ⟨by rfl, ?_⟩) HR2 ?_
  rotate_left
  · intro W hW
    go_simp
    try with_reducible rfl
  simp only [Act.put, List.setIfInBounds_toArray, List.set]
  refine wpAnyH_done (by kernel_rfl) ?_ _
  go_wp2
  refine bodyPost_ret (v := .tuple #[.agg L'.cells, .int .i64 (k : Int), .slice av Fs.length cap, .int .i64 0]) (res_land4 rfl _ _ (w.heap.size + 1) L' _ _ _ rfl rfl rfl rfl (setRow_heap _ _ _ _ _ _ RR)) rfl ⟨_, rfl, own_setRow OW ⟨by omega, by omega⟩, below_setRow BB (by omega) _⟩
end Go.Proofs.YtaifjndkgfffpaaDoor
