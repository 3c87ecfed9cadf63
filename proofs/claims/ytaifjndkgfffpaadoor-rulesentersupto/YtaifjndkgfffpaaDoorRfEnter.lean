/-
  The document's own entering: the contract. Written by a program.
-/
import Derived.Test.YtaifjndkgfffpaaDoorRfTurn
import Derived.Test.YtaifjndkgfffpaaDoorRfNamed
import Derived.Test.YtaifjndkgfffpaaDoorRuEnter
namespace Go.Proofs.YtaifjndkgfffpaaDoor
open Go.RowKit
set_option linter.unusedVariables false

/-- The least number of nobody among the last d, from 2 on; -1: none. -/
def vacD (L : Ld) : Nat → Int
  | 0 => -1
  | d + 1 => if 2 ≤ 5 - d ∧ L.here (5 - d) = false then ((5 - d : Nat) : Int) else vacD L d
theorem vacD_eq (L : Ld) : (vacD L 6 < 0 ∧ (vacA L).2 = false) ∨ ∃ k : Nat, k < 6 ∧ vacD L 6 = (k : Int) ∧ vacA L = ((k : Int), true) := by
  simp only [vacD, vacA]
  cases h2 : L.here 2 <;> cases h3 : L.here 3 <;> cases h4 : L.here 4 <;> cases h5 : L.here 5 <;> simp <;> first | exact ⟨2, by decide, rfl⟩ | exact ⟨3, by decide, rfl⟩ | exact ⟨4, by decide, rfl⟩ | exact ⟨5, by decide, rfl⟩
theorem begin_being (L : Ld) (k : Nat) (nm : ByteArray) : beginL (L.setBeing k nm true false 0 0 0) k = L.setBeing k nm true false 0 10 0 := by
  unfold beginL Ld.setBeing Ld.setRoom Ld.setHealth
  congr 1
  · funext j; by_cases e : j = k <;> simp [e]
  · funext j; by_cases e : j = k <;> simp [e]

set_option maxRecDepth 100000 in
set_option maxHeartbeats 4000000 in
theorem enterland_bad (L : Ld) (nm : ByteArray) (w : World) (hs : nm.size ≤ 140737488355328) (hre : refG L = goodL L) (hr : bars L nm ≠ 0) :
    Calls Tryd.prog 10 #[.agg L.cells, .string nm] w fun e w' => e = .returned (.tuple #[.agg L.cells, .int .i64 0, .slice none 0 0, .int .i64 (bars L nm)]) ∧ Below w.heap.size w w' := by
  have hz := (zero_of_info Tryd.zLand).1
  have D0 := hide (en_start L w)
  go_enter Tryd.func10, Tryd.ntmps10
  go_wp2_with (refine wl_land (.tmp 2) rfl rfl _ L rfl D0.out.cod ?_)
  refine (goodland_any L _).mono ?_
  rintro e w1 ⟨rfl, hb1⟩
  rw [hre]
  have D1 := hide (D0.out.call hb1)
  clear hb1 D0 hre
  cases hg : goodL L with
  | false =>
    have HV := hide (show bars L nm = 2 by unfold bars; rw [if_pos hg])
    clear hg hr
    go_wp2_with (first | (refine wl_land (.tmp 2) rfl rfl _ L rfl D1.out.cod ?_) | (refine wl_row 34 (.tmp 4) (.tmp 14) rfl rfl (w.heap.size + 1) L.cells rfl rfl 34 zl.cells D1.out.res (by rw [L.size]; exact Tryd.sizeLand) (by rw [L.size, zl.size]) (land_one L) ?_))
    exact bodyPost_ret (v := .tuple #[.agg L.cells, .int .i64 0, .slice none 0 0, .int .i64 2]) (res_land4 rfl _ _ (w.heap.size + 1) L _ _ _ rfl rfl rfl rfl (setRow_heap _ _ _ _ _ _ D1.out.res)) rfl ⟨by rw [HV.out], below_setRow D1.out.low (by omega) _⟩
  | true =>
    have HB := hide (show bars L nm = if namedB nm = false then 1 else if takenL L nm = true then 1 else if (vacA L).2 = false then 4 else 0 by unfold bars; rw [if_neg (by simp [hg])])
    have HRR := hide hr
    clear hr hg
    go_wp2_with fail
    go_loop [8, 9] (fun f v => ∃ j : Nat, j ≤ 6 ∧ v = .int .i64 ((j : Int) - 1) ∧ f = .int .i64 (vacD L (6 - j)) ∧ Hid (∀ c, j ≤ c → c < 6 → hasName L nm c = false)) (fun _ v => ((intOf v) + 1).toNat)
    case atStart => exact ⟨6, by omega, rfl, rfl, fun c h1 h2 => by omega⟩
    case round =>
      obtain ⟨j, hj6, rfl, rfl, HH⟩ := hrel
      by_cases hj : 0 < j
      · obtain ⟨c, rfl⟩ : ∃ c, j = c + 1 := ⟨j - 1, by omega⟩
        have hc : c < 6 := by omega
        have hci : (c : Int) < 6 := by omega
        have ec : ((c + 1 : Nat) : Int) - 1 = (c : Int) := by omega
        rw [ec]
        have c1 := D1.out.cod.being c 1 hc (by omega)
        have c0 := D1.out.cod.being c 0 hc (by omega)
        simp only [Ld.beingCell, Nat.add_zero] at c1 c0
        have hge : decide ((0 : Int) ≤ (c : Int)) = true := decide_eq_true (by omega)
        have hwc : wrap64 ((c : Int) - 1) = (c : Int) - 1 := by simp only [wrap64]; omega
        have e6 : 6 - c = (6 - (c + 1)) + 1 := by omega
        clear ec
        cases h1 : L.here c with
        | true =>
          rw [h1] at c1
          cases h0 : decide (L.bname c = nm) with
          | true =>
            have hxl : ((L.bname c).toList == nm.toList) = true := by rw [toList_eq]; exact h0
            have HT := hide (show takenL L nm = true by unfold takenL; exact List.any_eq_true.2 ⟨c, by simpa using hc, by unfold hasName; rw [h1, h0]; rfl⟩)
            clear h1 h0
            have HV := hide (show bars L nm = 1 by rw [HB.out]; split; rfl; rw [if_pos HT.out])
            go_wp2_with (first | (refine wl_land (.tmp 2) rfl rfl _ L rfl D1.out.cod ?_) | (refine wl_row 34 (.tmp 4) (.tmp 33) rfl rfl (w.heap.size + 1) L.cells rfl rfl 34 zl.cells D1.out.res (by rw [L.size]; exact Tryd.sizeLand) (by rw [L.size, zl.size]) (land_one L) ?_))
            exact bodyPost_ret (v := .tuple #[.agg L.cells, .int .i64 0, .slice none 0 0, .int .i64 1]) (res_land4 rfl _ _ (w.heap.size + 1) L _ _ _ rfl rfl rfl rfl (setRow_heap _ _ _ _ _ _ D1.out.res)) rfl ⟨by rw [HV.out], below_setRow D1.out.low (by omega) _⟩
          | false =>
            have hxl : ((L.bname c).toList == nm.toList) = false := by rw [toList_eq]; exact h0
            have HN : Hid (∀ c', c ≤ c' → c' < 6 → hasName L nm c' = false) := fun c' h1' h2' => by
              by_cases e : c' = c
              · subst e; unfold hasName; rw [h0, Bool.and_false]
              · exact HH.out c' (by omega) h2'
            have HVD := hide (show vacD L (6 - c) = vacD L (6 - (c + 1)) by rw [e6]; simp only [vacD]; rw [if_neg (by rw [show 5 - (6 - (c + 1)) = c by omega, h1]; simp)])
            clear h1 h0 e6
            go_wp2
            exact ⟨⟨c, by omega, rfl, by rw [HVD.out], HN.out⟩, by simp [intOf]⟩
        | false =>
          rw [h1] at c1
          have HN : Hid (∀ c', c ≤ c' → c' < 6 → hasName L nm c' = false) := fun c' h1' h2' => by
            by_cases e : c' = c
            · subst e; unfold hasName; rw [h1, Bool.false_and]
            · exact HH.out c' (by omega) h2'
          by_cases h2 : 2 ≤ c
          · have hd2 : decide ((2 : Int) ≤ (c : Int)) = true := decide_eq_true (by omega)
            have HVD := hide (show vacD L (6 - c) = (c : Int) by rw [e6]; simp only [vacD]; rw [show 5 - (6 - (c + 1)) = c by omega, if_pos ⟨h2, h1⟩])
            clear h1 e6
            go_wp2
            exact ⟨⟨c, by omega, rfl, by rw [HVD.out], HN.out⟩, by simp [intOf]⟩
          · have hd2 : decide ((2 : Int) ≤ (c : Int)) = false := decide_eq_false (by omega)
            have HVD := hide (show vacD L (6 - c) = vacD L (6 - (c + 1)) by rw [e6]; simp only [vacD]; rw [if_neg (by rw [show 5 - (6 - (c + 1)) = c by omega]; exact fun h => h2 h.1)])
            clear h1 e6
            go_wp2
            exact ⟨⟨c, by omega, rfl, by rw [HVD.out], HN.out⟩, by simp [intOf]⟩
      · have hj0 : j = 0 := by omega
        subst hj0
        have HT := hide (show takenL L nm = false by
          unfold takenL
          rw [Bool.eq_false_iff]
          intro h
          obtain ⟨c, hc, h⟩ := List.any_eq_true.1 h
          rw [HH.out c (by omega) (by simpa using hc)] at h
          cases h)
        have hge : decide ((0 : Int) ≤ ((0 : Nat) : Int) - 1) = false := by decide
        go_wp2_with fail
        refine (isnamed_any nm _ hs).mono ?_
        rintro e w2 ⟨rfl, hb2⟩
        have D2 := hide (D1.out.call hb2)
        clear hb2 D1
        cases hn : namedB nm with
        | false =>
          have HV := hide (show bars L nm = 1 by rw [HB.out, if_pos hn])
          clear hn
          go_wp2_with (first | (refine wl_land (.tmp 2) rfl rfl _ L rfl D2.out.cod ?_) | (refine wl_row 34 (.tmp 4) (.tmp 48) rfl rfl (w.heap.size + 1) L.cells rfl rfl 34 zl.cells D2.out.res (by rw [L.size]; exact Tryd.sizeLand) (by rw [L.size, zl.size]) (land_one L) ?_))
          exact bodyPost_ret (v := .tuple #[.agg L.cells, .int .i64 0, .slice none 0 0, .int .i64 1]) (res_land4 rfl _ _ (w.heap.size + 1) L _ _ _ rfl rfl rfl rfl (setRow_heap _ _ _ _ _ _ D2.out.res)) rfl ⟨by rw [HV.out], below_setRow D2.out.low (by omega) _⟩
        | true =>
          have hv : (vacA L).2 = false := by
            cases h : (vacA L).2 with
            | false => rfl
            | true => exact absurd (by rw [HB.out, if_neg (by simp [hn]), if_neg (by simp [HT.out]), if_neg (by simp [h])]) HRR.out
          have HV := hide (show bars L nm = 4 by rw [HB.out, if_neg (by simp [hn]), if_neg (by simp [HT.out]), if_pos hv])
          have hvd : decide (vacD L (6 - 0) < 0) = true := by
            rcases vacD_eq L with h | ⟨k, _, _, h⟩
            · exact decide_eq_true h.1
            · rw [h] at hv; cases hv
          clear hn hv
          generalize vacD L (6 - 0) = c at *
          go_wp2_with (first | (refine wl_land (.tmp 2) rfl rfl _ L rfl D2.out.cod ?_) | (refine wl_row 34 (.tmp 4) (.tmp 51) rfl rfl (w.heap.size + 1) L.cells rfl rfl 34 zl.cells D2.out.res (by rw [L.size]; exact Tryd.sizeLand) (by rw [L.size, zl.size]) (land_one L) ?_))
          exact bodyPost_ret (v := .tuple #[.agg L.cells, .int .i64 0, .slice none 0 0, .int .i64 4]) (res_land4 rfl _ _ (w.heap.size + 1) L _ _ _ rfl rfl rfl rfl (setRow_heap _ _ _ _ _ _ D2.out.res)) rfl ⟨by rw [HV.out], below_setRow D2.out.low (by omega) _⟩

set_option maxRecDepth 100000 in
set_option maxHeartbeats 4000000 in
theorem enterland_any (L L' : Ld) (Fs : List Ev) (nm : ByteArray) (k : Nat) (w : World) (hvr : Vr w) (hs : nm.size ≤ 140737488355328) (hre : refG L = goodL L) (hg : goodL L = true) (hn : namedB nm = true) (ht : takenL L nm = false) (hk : k < 6) (hv : vacA L = ((k : Int), true))
    (hL : beginL (L.setBeing k nm true false 0 0 0) k = L') (hF : beginE L' k = Fs) (hf : Fine L') :
    Calls Tryd.prog 10 #[.agg L.cells, .string nm] w fun e w' => ∃ v, e = .returned (.tuple #[.agg L'.cells, .int .i64 (k : Int), v, .int .i64 0]) ∧ w'.ownsRow w.heap.size 52 16 v Fs.length (evc Fs) ∧ Below w.heap.size w w' := by
  have hz := (zero_of_info Tryd.zLand).1
  have HVR := hide hvr
  have HL := hide ((begin_being L k nm).symm.trans hL)
  have HF := hide hF
  have HFI := hide hf
  have hki : (k : Int) < 6 := by omega
  have HVD : Hid (vacD L (6 - 0) = (k : Int)) := by
    rcases vacD_eq L with h | ⟨k', _, h1, h⟩
    · rw [hv] at h; cases h.2
    · rw [hv] at h; simp at h; show vacD L 6 = _; rw [h1]; omega
  have HTK := hide ht
  have HNM := hide hn
  clear hvr hL hF hf hv ht hn
  have D0 := hide (en_start L w)
  go_enter Tryd.func10, Tryd.ntmps10
  go_wp2_with (refine wl_land (.tmp 2) rfl rfl _ L rfl D0.out.cod ?_)
  refine (goodland_any L _).mono ?_
  rintro e w1 ⟨rfl, hb1⟩
  rw [hre, hg]
  have D1 := hide (D0.out.call hb1)
  clear hb1 D0 hre hg
  go_wp2_with fail
  go_loop [8, 9] (fun f v => ∃ j : Nat, j ≤ 6 ∧ v = .int .i64 ((j : Int) - 1) ∧ f = .int .i64 (vacD L (6 - j)) ∧ Hid (∀ c, j ≤ c → c < 6 → hasName L nm c = false)) (fun _ v => ((intOf v) + 1).toNat)
  case atStart => exact ⟨6, by omega, rfl, rfl, fun c h1 h2 => by omega⟩
  case round =>
    obtain ⟨j, hj6, rfl, rfl, HH⟩ := hrel
    by_cases hj : 0 < j
    · obtain ⟨c, rfl⟩ : ∃ c, j = c + 1 := ⟨j - 1, by omega⟩
      have hc : c < 6 := by omega
      have hci : (c : Int) < 6 := by omega
      have ec : ((c + 1 : Nat) : Int) - 1 = (c : Int) := by omega
      rw [ec]
      have c1 := D1.out.cod.being c 1 hc (by omega)
      have c0 := D1.out.cod.being c 0 hc (by omega)
      simp only [Ld.beingCell, Nat.add_zero] at c1 c0
      have hge : decide ((0 : Int) ≤ (c : Int)) = true := decide_eq_true (by omega)
      have hwc : wrap64 ((c : Int) - 1) = (c : Int) - 1 := by simp only [wrap64]; omega
      have e6 : 6 - c = (6 - (c + 1)) + 1 := by omega
      clear ec
      cases h1 : L.here c with
      | true =>
        rw [h1] at c1
        cases h0 : decide (L.bname c = nm) with
        | true =>
          have hxl : ((L.bname c).toList == nm.toList) = true := by rw [toList_eq]; exact h0
          have HT := hide (show takenL L nm = true by unfold takenL; exact List.any_eq_true.2 ⟨c, by simpa using hc, by unfold hasName; rw [h1, h0]; rfl⟩)
          clear h1 h0
          have HX := HT.out
          rw [HTK.out] at HX
          cases HX
        | false =>
          have hxl : ((L.bname c).toList == nm.toList) = false := by rw [toList_eq]; exact h0
          have HN : Hid (∀ c', c ≤ c' → c' < 6 → hasName L nm c' = false) := fun c' h1' h2' => by
            by_cases e : c' = c
            · subst e; unfold hasName; rw [h0, Bool.and_false]
            · exact HH.out c' (by omega) h2'
          have HVD := hide (show vacD L (6 - c) = vacD L (6 - (c + 1)) by rw [e6]; simp only [vacD]; rw [if_neg (by rw [show 5 - (6 - (c + 1)) = c by omega, h1]; simp)])
          clear h1 h0 e6
          go_wp2
          exact ⟨⟨c, by omega, rfl, by rw [HVD.out], HN.out⟩, by simp [intOf]⟩
      | false =>
        rw [h1] at c1
        have HN : Hid (∀ c', c ≤ c' → c' < 6 → hasName L nm c' = false) := fun c' h1' h2' => by
          by_cases e : c' = c
          · subst e; unfold hasName; rw [h1, Bool.false_and]
          · exact HH.out c' (by omega) h2'
        by_cases h2 : 2 ≤ c
        · have hd2 : decide ((2 : Int) ≤ (c : Int)) = true := decide_eq_true (by omega)
          have HVD := hide (show vacD L (6 - c) = (c : Int) by rw [e6]; simp only [vacD]; rw [show 5 - (6 - (c + 1)) = c by omega, if_pos ⟨h2, h1⟩])
          clear h1 e6
          go_wp2
          exact ⟨⟨c, by omega, rfl, by rw [HVD.out], HN.out⟩, by simp [intOf]⟩
        · have hd2 : decide ((2 : Int) ≤ (c : Int)) = false := decide_eq_false (by omega)
          have HVD := hide (show vacD L (6 - c) = vacD L (6 - (c + 1)) by rw [e6]; simp only [vacD]; rw [if_neg (by rw [show 5 - (6 - (c + 1)) = c by omega]; exact fun h => h2 h.1)])
          clear h1 e6
          go_wp2
          exact ⟨⟨c, by omega, rfl, by rw [HVD.out], HN.out⟩, by simp [intOf]⟩
    · have hj0 : j = 0 := by omega
      subst hj0
      have HT := hide (show takenL L nm = false by
        unfold takenL
        rw [Bool.eq_false_iff]
        intro h
        obtain ⟨c, hc, h⟩ := List.any_eq_true.1 h
        rw [HH.out c (by omega) (by simpa using hc)] at h
        cases h)
      have hge : decide ((0 : Int) ≤ ((0 : Nat) : Int) - 1) = false := by decide
      rw [HVD.out]
      go_wp2_with fail
      refine (isnamed_any nm _ hs).mono ?_
      rintro e w3 ⟨rfl, hb2⟩
      rw [HNM.out]
      have D3 := hide (D1.out.call hb2)
      clear hb2 D1
      have hk0 : decide ((k : Int) < 0) = false := decide_eq_false (by omega)
      have hw := (tn_start L (.int .i64 (k : Int)) w3).whole k hk nm true false 0 10 0
      have X := hide hw.1
      clear hw
      go_upto_region 17 with (first | (refine wl_land (.tmp 2) rfl rfl _ L rfl D3.out.cod ?_) | (refine wl_build 66 #[(0, .tmp 52), (1, .tmp 53)] rfl ?hh _ _ (built_turn_at L (k : Int)) ?hv ?_) | (refine wl_whole (.tmp 63) (.tmp 59) rfl rfl k hk nm true false 0 10 0 rfl rfl (tn_start L (.int .i64 (k : Int)) w3) ?_))
      generalize (w3.alloc (.cells (L.more [.int .i64 (k : Int)] (.slice none 0 0)) 66)).setCells w3.heap.size (129 + k * 6) [.string nm, .bool true, .bool false, .int .i64 0, .int .i64 10, .int .i64 0] = wq at X ⊢
      simp only [Act.put]
      rw [HL.out] at X
      go_wp2_with fail
      refine (tadd_none X.out hk 17 0 0 ⟨#[]⟩ ⟨#[]⟩ (by simp)).mono ?_
      rintro e w4 ⟨rfl, S4h, T4h⟩
      have S4 := hide S4h
      clear S4h T4h X
      go_wp2_with fail
      refine (tlook_any S4.out HFI.out (HVR.out.below D3.out.low (Nat.le_refl _)) hk (by simp)).mono ?_
      rintro e w5 ⟨rfl, S5, T5⟩
      have S5 : Sn 66 [.int .i64 (k : Int)] w3 L' Fs w5 := by rw [← HF.out]; exact S5
      obtain ⟨v, hv, ho⟩ := S5.ex
      obtain ⟨av, cap, rfl⟩ := shapeE ho
      have hlt1 : w.heap.size + 1 < w3.heap.size := (Array.getElem?_eq_some_iff.1 D3.out.res).1
      have HR : Ht w3.heap.size L' (.slice av Fs.length cap) w5.drew := ⟨S5.land, by
        show w5.cell? _ = _
        rw [cell_of_row _ _ _ _ _ _ hv]; exact more_row L' [.int .i64 (k : Int)] _⟩
      have RR : w5.drew.heap[w.heap.size + 1]? = some (.cells zl.cells 34 (0, 0)) := by
        show w5.heap[w.heap.size + 1]? = _
        rw [S5.low.block _ (by omega)]; exact D3.out.res
      have OW : w5.drew.ownsRow (w3.heap.size + 1) 52 16 (.slice av Fs.length cap) Fs.length (evc Fs) := ho
      have BB : Below w.heap.size w w5.drew := (D3.out.low.trans (S5.low.mono D3.out.low.size)).drew
      have hne : w3.heap.size ≠ w.heap.size + 1 := by omega
      clear S5 T5 hv ho D3 S4 HL HF HFI
      go_wp2_with fail
      refine wp_region_held (S := Ht w3.heap.size L' (.slice av Fs.length cap)) (by kernel_rfl) ?_
      change wpAnyH _ _ _ _ _ _ _ _ w5.drew
      generalize w5.drew = W0 at HR RR OW BB ⊢
      refine take_at (i := 0) (d := some 68) (fuel := 12) (v := ?_) rfl rfl (by kernel_rfl) (by kernel_rfl) (by kernel_rfl) (fun _ _ _ h => h) (Or.inl ⟨by rfl, ?_⟩) HR ?_
      rotate_left
      · intro W hW
        have hc := hW.row
        go_simp
        try with_reducible rfl
      simp only [Act.put, List.setIfInBounds_toArray, List.set]
      refine take_at (i := 1) (d := some 69) (fuel := 11) (v := ?_) rfl rfl (by kernel_rfl) (by kernel_rfl) (by kernel_rfl) (fun _ _ _ h => h) (Or.inl ⟨by rfl, ?_⟩) HR ?_
      rotate_left
      · intro W hW
        have hc := hW.row
        go_simp
        try with_reducible rfl
      simp only [Act.put, List.setIfInBounds_toArray, List.set]
      refine take_at (i := 2) (d := some 70) (fuel := 10) (v := ?_) rfl rfl (by kernel_rfl) (by kernel_rfl) (by kernel_rfl) (fun _ _ _ h => h) (Or.inl ⟨by rfl, ?_⟩) HR ?_
      rotate_left
      · intro W hW
        have hc := hW.row
        go_simp
        try with_reducible rfl
      simp only [Act.put, List.setIfInBounds_toArray, List.set]
      refine take_at (i := 3) (d := some 71) (fuel := 9) (v := .agg L'.cells) rfl rfl (by kernel_rfl) (by kernel_rfl) (by kernel_rfl) (fun _ _ _ h => h) (Or.inl ⟨by rfl, fun W hW => exec_land' (.tmp 70) rfl rfl hW.land⟩) HR ?_
      simp only [Act.put, List.setIfInBounds_toArray, List.set]
      refine take_at (i := 4) (d := some 72) (fuel := 8) (v := ?_) rfl rfl (by kernel_rfl) (by kernel_rfl) (by kernel_rfl) (fun _ _ _ h => h) (Or.inl ⟨by rfl, ?_⟩) HR ?_
      rotate_left
      · intro W hW
        have hc := hW.row
        go_simp
        try with_reducible rfl
      simp only [Act.put, List.setIfInBounds_toArray, List.set]
      refine take_at (i := 5) (d := some 73) (fuel := 7) (v := ?_) rfl rfl (by kernel_rfl) (by kernel_rfl) (by kernel_rfl) (fun _ _ _ h => h) (Or.inl ⟨by rfl, ?_⟩) HR ?_
      rotate_left
      · intro W hW
        have hc := hW.row
        go_simp
        try with_reducible rfl
      simp only [Act.put, List.setIfInBounds_toArray, List.set]
      refine take_at (i := 6) (d := some 74) (fuel := 6) (v := ?_) rfl rfl (by kernel_rfl) (by kernel_rfl) (by kernel_rfl) (fun _ _ _ h => h) (Or.inl ⟨by rfl, ?_⟩) HR ?_
      rotate_left
      · intro W hW
        have hc := hW.row
        go_simp
        try with_reducible rfl
      simp only [Act.put, List.setIfInBounds_toArray, List.set]
      refine take_at (i := 7) (d := some 75) (fuel := 5) (v := ?_) rfl rfl (by kernel_rfl) (by kernel_rfl) (by kernel_rfl) (fun _ _ _ h => h) (Or.inl ⟨by rfl, ?_⟩) HR ?_
      rotate_left
      · intro W hW
        have hc := hW.row
        go_simp
        try with_reducible rfl
      simp only [Act.put, List.setIfInBounds_toArray, List.set]
      refine take_at (i := 8) (d := some 76) (fuel := 4) (v := ?_) rfl rfl (by kernel_rfl) (by kernel_rfl) (by kernel_rfl) (fun _ _ _ h => h) (Or.inl ⟨by rfl, ?_⟩) HR ?_
      rotate_left
      · intro W hW
        have hc := hW.row
        go_simp
        try with_reducible rfl
      simp only [Act.put, List.setIfInBounds_toArray, List.set]
      refine wpAnyH_all (fuel := 3) (rs := [9]) (by kernel_rfl) (by simp) ?_
      intro i hi
      obtain rfl : i = 9 := by simpa using hi
      clear hi
      refine skip_at (d := none) rfl rfl (by rfl) (exec_storeland (.tmp 4) (.tmp 71) rfl (k := (w.heap.size + 1)) (L := L') (old := zl.cells) rfl rfl RR zl.size) ?_
      have HR2 := HR.setRow hne (cs := L'.cells)
      refine ⟨HR2, ?_⟩
      simp only [Act.put]
      refine take_at (i := 10) (d := some 5) (fuel := 2) (v := ?_) rfl rfl (by kernel_rfl) (by kernel_rfl) (by kernel_rfl) (fun _ _ _ h => h) (Or.inl ⟨by rfl, ?_⟩) HR2 ?_
      rotate_left
      · intro W hW
        go_simp
        try with_reducible rfl
      simp only [Act.put, List.setIfInBounds_toArray, List.set]
      refine take_at (i := 11) (d := some 6) (fuel := 1) (v := ?_) rfl rfl (by kernel_rfl) (by kernel_rfl) (by kernel_rfl) (fun _ _ _ h => h) (Or.inl ⟨by rfl, ?_⟩) HR2 ?_
      rotate_left
      · intro W hW
        go_simp
        try with_reducible rfl
      simp only [Act.put, List.setIfInBounds_toArray, List.set]
      refine take_at (i := 12) (d := some 7) (fuel := 0) (v := ?_) rfl rfl (by kernel_rfl) (by kernel_rfl) (by kernel_rfl) (fun _ _ _ h => h) (Or.inl ⟨by rfl, ?_⟩) HR2 ?_
      rotate_left
      · intro W hW
        go_simp
        try with_reducible rfl
      simp only [Act.put, List.setIfInBounds_toArray, List.set]
      refine wpAnyH_done (by kernel_rfl) ?_ _
      go_wp2
      refine bodyPost_ret (v := .tuple #[.agg L'.cells, .int .i64 (k : Int), .slice av Fs.length cap, .int .i64 0]) (res_land4 rfl _ _ (w.heap.size + 1) L' _ _ _ rfl rfl rfl rfl (setRow_heap _ _ _ _ _ _ RR)) rfl ⟨_, rfl, own_setRow OW ⟨by omega, by omega⟩, below_setRow BB (by omega) _⟩
end Go.Proofs.YtaifjndkgfffpaaDoor
