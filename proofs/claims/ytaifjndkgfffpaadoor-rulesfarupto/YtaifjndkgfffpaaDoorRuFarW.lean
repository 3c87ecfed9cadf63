/-
  RulesFar: what it answers.
-/
import Derived.Test.YtaifjndkgfffpaaDoorRuFa
import Derived.Test.YtaifjndkgfffpaaDoorMgM
import Derived.Test.YtaifjndkgfffpaaDoorRuDo2
import Derived.Test.YtaifjndkgfffpaaDoorRuActs
namespace Go.Proofs.YtaifjndkgfffpaaDoor
open Go.RowKit
set_option linter.unusedVariables false

theorem refuses_nil {L : Ld} {b v : Int} (h : refuses L b v = 0) : goodL L = true ∧ amg b 6 = true ∧ L.here b.toNat = true ∧ 0 ≤ v ∧ v ≤ 20 := by
  unfold refuses at h
  by_cases h1 : goodL L = false
  · rw [if_pos h1] at h; omega
  · rw [if_neg h1] at h
    by_cases h2 : amg b 6 = false
    · rw [if_pos h2] at h; omega
    · rw [if_neg h2] at h
      by_cases h3 : L.here b.toNat = false
      · rw [if_pos h3] at h; omega
      · rw [if_neg h3] at h
        by_cases h4 : v < 0 ∨ 20 < v
        · rw [if_pos h4] at h; omega
        · exact ⟨by simpa using h1, by simpa using h2, by simpa using h3, by omega, by omega⟩
theorem event_rangeF {w : World} {base : Nat} {v : Value} {Fs : List Ev} (h : w.ownsRow base 52 16 v Fs.length (evc Fs)) {k : Nat} {E : Ev} (hE : Fs[k]? = some E) : ∃ g cap, v = .slice (some ⟨g, 0, none⟩) Fs.length cap ∧ base ≤ g ∧ g < w.heap.size ∧ w.rangeAt g (k * 16) E.cells.toList := by
  obtain ⟨hk, e⟩ := List.getElem?_eq_some_iff.1 hE
  obtain ⟨g, cap, rfl, hb, hc⟩ := event_of h k hk
  refine ⟨g, cap, rfl, hb, (h.lt g rfl).2, fun j x hx => ?_⟩
  have hj : j < 16 := by
    have := (List.getElem?_eq_some_iff.1 hx).1; rw [Array.length_toList, Ev.size] at this; exact this
  rw [hc j hj, e, ← hx, Array.getElem?_toList]
theorem bs_some {l : List UInt8} (h : l ≠ []) : (bs l).toList.isEmpty = false := by
  rw [Lib.toList_data, bs_data]
  cases l with
  | nil => exact absurd rfl h
  | cons a l => rfl
/-- The number of what comes of an order. -/
theorem act_len (L : Ld) (b : Nat) (O : Od) : (actE L b O).length ≤ 100 := by
  have hl := look_len L b
  have hp : ∀ (wh loc : Int) (E : Ev), (partE L b O wh loc E).length ≤ 11 := fun wh loc E => by
    have := had_len L b O
    unfold partE
    rw [List.length_append, part_len]
    unfold sigE
    split <;> simp <;> omega
  have hsg : ∀ (q : List Int) (s : ByteArray), (sigE L b q s).length ≤ 1 := fun q s => by unfold sigE; split <;> simp
  have hgt : (getE L b O).length ≤ 20 := by
    unfold getE
    rw [List.length_append, take_len]
    have h1 := hsg (meantL L (sightL L b) O.nth O.all O.name) noThingS
    have h2 : (meantL L (sightL L b) O.nth O.all O.name).length ≤ 9 := by
      have h0 := sight_len L b
      have h1 := List.length_filter_le (fits L O.name) (sightL L b)
      unfold meantL nthL
      split
      · omega
      · split <;> simp
    omega
  have hgb : (getBE L b O).length ≤ 20 := by
    unfold getBE
    split
    · simp
    · rename_i i _
      have h2 := in_len L i O
      have h1 := hsg (inL L i O) noThingS
      rw [List.length_append, take_len]
      omega
  unfold actE
  split
  · omega
  split
  · unfold getAE; split <;> omega
  split
  · have := hp 0 (L.room b) (evN L 4 b); omega
  split
  · unfold putE
    split
    · simp
    · rename_i i _
      have := hp 2 (i : Int) (stowE L b i); omega
  split
  · unfold giveE
    split
    · simp
    · rename_i i _
      have := hp 1 (i : Int) (evW L 6 b i); omega
  split
  · simp
  have hd : ∀ (d : Nat) (C : Chg), (doorE L b d C).length ≤ 1 := by
    intro d C
    unfold doorE
    repeat' split
    all_goals simp
  have ht : ∀ (C : Chg), (turnE L b O C).length ≤ 1 := by
    intro C
    unfold turnE
    repeat' split
    all_goals simp
  split
  · split
    · have := hd (dirA O.name.data.toList).1.toNat (turnedC O.verb); omega
    · have := ht (turnedC O.verb); omega
  split
  · have := ht (turnedC O.verb); omega
  split
  · unfold hitsE; split <;> simp
  split
  · simp
  split
  · simp
  unfold walkE
  have hw := look_len (walkL L b O.verb.toNat) b
  repeat' split
  all_goals simp
  omega

set_option maxRecDepth 100000 in
set_option maxHeartbeats 8000000 in
theorem farW (L : Ld) (b : Int) (O : Od) (c : Int) (wA : World) (hvb : Vb wA) (hai : Ai wA) (hwf : Wf L) (hn1 : ∀ r, r < 6 → (L.rname r).size ≤ 1048576) (hn2 : ∀ i, i < 9 → (L.tname i).size ≤ 1048576) (hn3 : ∀ b, b < 6 → (L.bname b).size ≤ 1048576) (hO : OdOk O) (hOt : O.text.size ≤ 1048576) :
    Calls Tryd.prog 6 #[.agg L.cells, .int .i64 b, .agg O.cells, .int .i64 c] wA fun e wA' => e = .returned (.bool true) ∧ Below wA.heap.size wA wA' := by
  have hz := (zero_of_info Tryd.zLand).1
  have C0 := hide ((cod_new wA L).alloc (.cells O.cells 47))
  have B0 := hide ((below_box wA (.cells L.cells 34)).alloc (by simp) (.cells O.cells 47))
  have V0 := hide ((hvb.alloc (.cells L.cells 34)).alloc (.cells O.cells 47))
  have G0' : Hid (((wA.alloc (.cells L.cells 34)).alloc (.cells O.cells 47)).heap[wA.heap.size + 1]? = some (.cells O.cells 47 (0, 0))) := by
    have := heap_alloc_new (wA.alloc (.cells L.cells 34)) (.cells O.cells 47)
    rw [World.size_alloc] at this; exact this
  have HN := hide (And.intro hn1 (And.intro hn2 hn3))
  have HVB := hide hvb
  have HAI := hide hai
  clear hvb hai hn1 hn2 hn3
  go_enter Tryd.func6, Tryd.ntmps6
  go_wp2_with (first | (refine wl_land (.tmp 4) rfl rfl _ L rfl C0.out ?_) | (refine wl_wanted rfl (wp_load_row 47 (.tmp 6) rfl (wA.heap.size + 1) rfl 47 O.cells (0, 0) _ G0'.out Tryd.underlying47 rfl Tryd.sizeOrder ?_)))
  generalize (wA.alloc (.cells L.cells 34)).alloc (.cells O.cells 47) = w0 at *
  by_cases hr0 : refuses L b O.verb = 0
  · obtain ⟨hg, ha, hh, hv0, hv1⟩ := refuses_nil hr0
    obtain ⟨h0, h6⟩ := amg_pos ha
    obtain ⟨k, rfl⟩ := Int.eq_ofNat_of_zero_le h0
    have hk : k < 6 := by omega
    have hki : (k : Int) < 6 := by omega
    have hh' : L.here k = true := by simpa using hh
    have hf := fine_of hg HN.out.1 HN.out.2.1 HN.out.2.2
    have HK := hide (act_near hg hf hk hh' O hOt hv0 hv1)
    have HLn := hide (act_len L k O)
    refine (do_any L (actL L k O) (actE L k O) k O _ V0.out hwf hg hk hh' hv0 hv1 (fun w0 w hv hS => act_any hS hf hg hv k hk O hO hv0 hv1 (by simp))).mono ?_
    generalize actL L k O = X at *
    generalize actE L k O = Fs at *
    rintro e w2 ⟨v, rfl, ho, hb2⟩
    have C2 := hide ((C0.out.behind hb2 (Nat.le_refl _)).alloc (.cells X.cells 34))
    have X2 := hide (cod_new w2 X)
    have V2 := hide ((V0.out.below hb2 (Nat.le_refl _)).alloc (.cells X.cells 34))
    have B2 := hide ((B0.out.trans (hb2.mono B0.out.size)).alloc (by have := B0.out.size; have := hb2.size; omega) (.cells X.cells 34))
    have O2 := hide (own_below ho (below_box w2 (.cells X.cells 34)))
    have G2 : Hid ((w2.alloc (.cells X.cells 34)).heap[wA.heap.size + 1]? = some (.cells O.cells 47 (0, 0))) := by
      have h1 := (Array.getElem?_eq_some_iff.1 G0'.out).1
      have h2 := hb2.size
      rw [Below.heap_alloc _ _ _ (by omega), hb2.block _ h1]; exact G0'.out
    obtain ⟨av, cap, rfl⟩ := shapeE ho
    have hl0 := B0.out.size
    clear ho hb2 hf hg hh hh' C0 B0 V0 hr0 ha h0 h6 HN G0' hv0 hv1
    by_cases hc : 0 ≤ c ∧ c < 6 ∧ c ≠ (k : Int)
    · obtain ⟨hc0, hc6, hck⟩ := hc
      obtain ⟨q, rfl⟩ := Int.eq_ofNat_of_zero_le hc0
      have hq : q < 6 := by omega
      have hqk : q ≠ k := by omega
      have hd0 : decide ((q : Int) < 0) = false := decide_eq_false (by omega)
      have hd6 : decide ((6 : Int) ≤ (q : Int)) = false := decide_eq_false (by omega)
      have hdk : ((q : Int) == (k : Int)) = false := by simp; omega
      clear hc0 hck
      go_wp2_with (refine wl_new 34 (.tmp 9) (.tmp 22) rfl rfl _ _ rfl rfl rfl (by rw [Ld.size]; exact Tryd.sizeLand) (by rw [Ld.size, Ld.size]) (land_one _) ?_)
      refine (kacts_any _ V2.out).mono ?_
      rintro e w3 ⟨rfl, hb3⟩
      have C3 := hide (C2.out.behind hb3 (Nat.le_refl _))
      have X3 := hide (X2.out.behind hb3 (Nat.le_refl _))
      have B3 := hide (B2.out.trans (hb3.mono B2.out.size))
      have O3 := hide (own_below O2.out hb3)
      have G3 : Hid (w3.heap[wA.heap.size + 1]? = some (.cells O.cells 47 (0, 0))) := by
        rw [hb3.block _ ((Array.getElem?_eq_some_iff.1 G2.out).1)]; exact G2.out
      clear hb3 C2 X2 V2 B2 O2 G2
      have a3 := C3.out.being q 3 hq (by omega)
      have b3 := C3.out.being k 3 hk (by omega)
      have x3 := X3.out.being k 3 hk (by omega)
      simp only [Ld.beingCell] at a3 b3 x3
      generalize hfar : (decide (L.room q ≠ L.room k) && decide (L.room q ≠ X.room k)) = far
      have HFR : Hid (far = true → ∀ E ∈ Fs, E.by' q = 0) := by
        intro hx E hE
        rw [← hfar] at hx
        simp only [Bool.and_eq_true, decide_eq_true_eq] at hx
        exact (HK.out E hE).far q hq hqk hx.1 hx.2
      go_upto_region 4 with fail
      go_cut [12] (fun f wc => f = .bool far ∧ Below w3.heap.size w3 wc)
      case first =>
        by_cases e1 : L.room q = L.room k
        · have hn : (L.room q != L.room k) = false := by simp [e1]
          have HF := hide (show far = false by rw [← hfar]; simp [e1])
          clear e1 hfar
          go_quiet (fail)
          go_wp2
          go_meet
          exact ⟨by rw [HF.out], below_drewN (Below.refl _ _) _⟩
        · have hn : (L.room q != L.room k) = true := by simp [e1]
          by_cases e2 : L.room q = X.room k
          · have hn2 : (L.room q != X.room k) = false := by simp [e2]
            have HF := hide (show far = false by rw [← hfar]; simp [e2])
            clear e1 e2 hfar
            go_quiet (fail)
            go_wp2
            go_meet
            exact ⟨by rw [HF.out], below_drewN (Below.refl _ _) _⟩
          · have hn2 : (L.room q != X.room k) = true := by simp [e2]
            have HF := hide (show far = true by rw [← hfar]; simp [e1, e2])
            clear e1 e2 hfar
            go_quiet (fail)
            go_wp2
            go_meet
            exact ⟨by rw [HF.out], below_drewN (Below.refl _ _) _⟩
      case rest =>
        obtain ⟨rfl, hb4h⟩ := hcut
        clear hfar
        cases far with
        | true =>
          have hb4 := hide hb4h
          have B4 := hide (B3.out.trans (hb4h.mono B3.out.size))
          have O4 := hide (own_below O3.out hb4h)
          have G4 : Hid (wc.heap[wA.heap.size + 1]? = some (.cells O.cells 47 (0, 0))) := by
            rw [hb4h.block _ ((Array.getElem?_eq_some_iff.1 G3.out).1)]; exact G3.out
          clear hb4h a3 b3 x3 C3 X3 B3 O3 G3 hb4
          have hln := HLn.out
          generalize hnn : Fs.length = n at *
          have HNN := hide hnn
          clear hnn
          go_wp2_with fail
          go_loopw [71] (fun i wr => ∃ j : Nat, j ≤ n ∧ i = .int .i64 j ∧ Below wc.heap.size wc wr) (fun i _ => n - (intOf i).toNat)
          case atStart => exact ⟨0, by omega, rfl, Below.refl _ _⟩
          case round =>
            obtain ⟨j, hlj, rfl, Rh⟩ := hrel
            have R := hide Rh
            clear Rh
            by_cases hj : j < n
            · obtain ⟨E, hE⟩ : ∃ E, Fs[j]? = some E := ⟨Fs[j]'(by rw [HNN.out]; exact hj), List.getElem?_eq_getElem (by rw [HNN.out]; exact hj)⟩
              have hOw : wr.ownsRow w0.heap.size 52 16 (.slice av Fs.length cap) Fs.length (evc Fs) := own_below (by rw [HNN.out]; exact O4.out) R.out
              obtain ⟨g, cap', e, hbg, hgl, hrg⟩ := event_rangeF hOw hE
              injection e with e1 e2 e3
              subst e1 e3
              have hM := List.mem_of_getElem? hE
              have HEV := hide (HK.out E hM)
              have HRG := hide hrg
              have CA := hide (cev_new wr E)
              have RA := hide (R.out.trans ((below_box wr (.cells E.cells 52)).mono R.out.size))
              have o0 : (wr.alloc (.cells E.cells 52)).cell? ⟨wA.heap.size + 1, 0, none⟩ = some (.int .i64 O.verb) := by
                have h1 := (Array.getElem?_eq_some_iff.1 G4.out).1
                have h2 := R.out.size
                have : (wr.alloc (.cells E.cells 52)).heap[wA.heap.size + 1]? = some (.cells O.cells 47 (0, 0)) := by
                  rw [Below.heap_alloc _ _ _ (by omega), R.out.block _ h1]; exact G4.out
                rw [cell_of_row _ _ _ _ _ _ this]; rfl
              have hby : true = true → E.by' q = 0 := fun h => HFR.out (by simp) E hM
              clear hrg hE hOw e2 hM
              go_upto_region 8 with (first | (refine wl_mid 52 (.tmp 73) rfl rfl g (j * 16) E.cells.toList _ rfl HRG.out Tryd.underlying52 rfl Tryd.sizeEvent ?_) | (refine wl_new 52 (.tmp 14) (.tmp 74) rfl rfl _ _ rfl rfl rfl Tryd.sizeEvent rfl (Ev.one E) ?_))
              generalize hwy : wr.alloc (.cells E.cells 52) = wy at *
              generalize hky : wr.heap.size = ky at *
              have y0 := CA.out.kind
              have y2 := CA.out.actor
              have yb := CA.out.by' q hq
              rw [HEV.out.actor] at y2
              have HQ : Hid ((q : Int) ≠ E.actor) := by rw [HEV.out.actor]; exact fun e => hqk (by omega)
              have HT := hide (tell_any E (q : Int) wy (HVB.out.below (B4.out.trans (RA.out.mono B4.out.size)) (Nat.le_refl _)) (HAI.out.below (B4.out.trans (RA.out.mono B4.out.size))) (by rw [HEV.out.num]; omega) (by rw [HEV.out.num]; omega) (fun k _ => ok_fill HEV.out k))
              have HTO : Hid (E.kind = 16 → E.by' q = 0) := HEV.out.told q hq hqk
              clear hwy hky R HRG hgl hbg HEV
              simp only [Act.put]
              have hb0 : (E.by' q != 0) = false := by simp [hby rfl]
              have key : (E.kind == 16) = true ∨ (E.kind == 16) = false := by cases E.kind == 16 <;> simp
              clear hby
              rcases key with h16 | h16
              all_goals
                go_wp2_with (refine wl_event (.tmp 14) rfl rfl _ E rfl CA.out ?_)
                refine HT.out.mono ?_
                rintro e w5 ⟨rfl, hb5⟩
                have R5 := hide (RA.out.trans (hb5.mono RA.out.size))
                clear hb5
                cases htl : tellL E (q : Int) with
                | none =>
                  clear htl
                  unfold tellA
                  go_wp2
                  go_roundw
                  case rel => first | exact ⟨j + 1, by omega, by go_num, R5.out⟩ | ((repeat apply Exists.intro); exact ⟨⟨j + 1, by omega, by go_num, R5.out⟩, rfl⟩)
                  case measure => simp [intOf]; omega
                | some l =>
                  have hne := bs_some (told_some HQ.out htl)
                  clear htl
                  unfold tellA
                  go_wp2
                  go_roundw
                  case rel => first | exact ⟨j + 1, by omega, by go_num, R5.out⟩ | ((repeat apply Exists.intro); exact ⟨⟨j + 1, by omega, by go_num, R5.out⟩, rfl⟩)
                  case measure => simp [intOf]; omega
            · have hjn : j = n := by omega
              subst hjn
              have BF := hide (B4.out.trans (R.out.mono B4.out.size))
              go_wp2
              go_ret
              exact ⟨rfl, BF.out⟩
        | false =>
          have hb4 := hide hb4h
          have B4 := hide (B3.out.trans (hb4h.mono B3.out.size))
          have O4 := hide (own_below O3.out hb4h)
          have G4 : Hid (wc.heap[wA.heap.size + 1]? = some (.cells O.cells 47 (0, 0))) := by
            rw [hb4h.block _ ((Array.getElem?_eq_some_iff.1 G3.out).1)]; exact G3.out
          clear hb4h a3 b3 x3 C3 X3 B3 O3 G3 hb4
          have hln := HLn.out
          generalize hnn : Fs.length = n at *
          have HNN := hide hnn
          clear hnn
          go_wp2_with fail
          go_loopw [71] (fun i wr => ∃ j : Nat, j ≤ n ∧ i = .int .i64 j ∧ Below wc.heap.size wc wr) (fun i _ => n - (intOf i).toNat)
          case atStart => exact ⟨0, by omega, rfl, Below.refl _ _⟩
          case round =>
            obtain ⟨j, hlj, rfl, Rh⟩ := hrel
            have R := hide Rh
            clear Rh
            by_cases hj : j < n
            · obtain ⟨E, hE⟩ : ∃ E, Fs[j]? = some E := ⟨Fs[j]'(by rw [HNN.out]; exact hj), List.getElem?_eq_getElem (by rw [HNN.out]; exact hj)⟩
              have hOw : wr.ownsRow w0.heap.size 52 16 (.slice av Fs.length cap) Fs.length (evc Fs) := own_below (by rw [HNN.out]; exact O4.out) R.out
              obtain ⟨g, cap', e, hbg, hgl, hrg⟩ := event_rangeF hOw hE
              injection e with e1 e2 e3
              subst e1 e3
              have hM := List.mem_of_getElem? hE
              have HEV := hide (HK.out E hM)
              have HRG := hide hrg
              have CA := hide (cev_new wr E)
              have RA := hide (R.out.trans ((below_box wr (.cells E.cells 52)).mono R.out.size))
              have o0 : (wr.alloc (.cells E.cells 52)).cell? ⟨wA.heap.size + 1, 0, none⟩ = some (.int .i64 O.verb) := by
                have h1 := (Array.getElem?_eq_some_iff.1 G4.out).1
                have h2 := R.out.size
                have : (wr.alloc (.cells E.cells 52)).heap[wA.heap.size + 1]? = some (.cells O.cells 47 (0, 0)) := by
                  rw [Below.heap_alloc _ _ _ (by omega), R.out.block _ h1]; exact G4.out
                rw [cell_of_row _ _ _ _ _ _ this]; rfl
              have hby : false = true → E.by' q = 0 := fun h => by cases h
              clear hrg hE hOw e2 hM
              go_upto_region 8 with (first | (refine wl_mid 52 (.tmp 73) rfl rfl g (j * 16) E.cells.toList _ rfl HRG.out Tryd.underlying52 rfl Tryd.sizeEvent ?_) | (refine wl_new 52 (.tmp 14) (.tmp 74) rfl rfl _ _ rfl rfl rfl Tryd.sizeEvent rfl (Ev.one E) ?_))
              generalize hwy : wr.alloc (.cells E.cells 52) = wy at *
              generalize hky : wr.heap.size = ky at *
              have y0 := CA.out.kind
              have y2 := CA.out.actor
              have yb := CA.out.by' q hq
              rw [HEV.out.actor] at y2
              have HQ : Hid ((q : Int) ≠ E.actor) := by rw [HEV.out.actor]; exact fun e => hqk (by omega)
              have HT := hide (tell_any E (q : Int) wy (HVB.out.below (B4.out.trans (RA.out.mono B4.out.size)) (Nat.le_refl _)) (HAI.out.below (B4.out.trans (RA.out.mono B4.out.size))) (by rw [HEV.out.num]; omega) (by rw [HEV.out.num]; omega) (fun k _ => ok_fill HEV.out k))
              have HTO : Hid (E.kind = 16 → E.by' q = 0) := HEV.out.told q hq hqk
              clear hwy hky R HRG hgl hbg HEV
              simp only [Act.put]
              have key : ((E.kind == 16) = true ∧ (E.by' q != 0) = false) ∨ (E.kind == 16) = false := by
                by_cases h16 : E.kind = 16
                · exact .inl ⟨by simp [h16], by simp [HTO.out h16]⟩
                · exact .inr (by simp [h16])
              clear hby
              rcases key with ⟨h16, hb0⟩ | h16
              all_goals
                go_wp2_with (refine wl_event (.tmp 14) rfl rfl _ E rfl CA.out ?_)
                refine HT.out.mono ?_
                rintro e w5 ⟨rfl, hb5⟩
                have R5 := hide (RA.out.trans (hb5.mono RA.out.size))
                clear hb5
                cases htl : tellL E (q : Int) with
                | none =>
                  clear htl
                  unfold tellA
                  go_wp2
                  go_roundw
                  case rel => first | exact ⟨j + 1, by omega, by go_num, R5.out⟩ | ((repeat apply Exists.intro); exact ⟨⟨j + 1, by omega, by go_num, R5.out⟩, rfl⟩)
                  case measure => simp [intOf]; omega
                | some l =>
                  have hne := bs_some (told_some HQ.out htl)
                  clear htl
                  unfold tellA
                  go_wp2
                  go_roundw
                  case rel => first | exact ⟨j + 1, by omega, by go_num, R5.out⟩ | ((repeat apply Exists.intro); exact ⟨⟨j + 1, by omega, by go_num, R5.out⟩, rfl⟩)
                  case measure => simp [intOf]; omega
            · have hjn : j = n := by omega
              subst hjn
              have BF := hide (B4.out.trans (R.out.mono B4.out.size))
              go_wp2
              go_ret
              exact ⟨rfl, BF.out⟩
    · have hc2 : decide (c < 0) = true ∨ (decide (c < 0) = false ∧ decide ((6 : Int) ≤ c) = true) ∨ (decide (c < 0) = false ∧ decide ((6 : Int) ≤ c) = false ∧ (c == (k : Int)) = true) := by
        by_cases h1 : c < 0
        · exact .inl (by simpa using h1)
        · by_cases h2 : 6 ≤ c
          · exact .inr (.inl ⟨by simpa using h1, by simpa using h2⟩)
          · exact .inr (.inr ⟨by simpa using h1, by simpa using h2, by
              by_cases h3 : c = (k : Int)
              · simp [h3]
              · exact absurd ⟨by omega, by omega, h3⟩ hc⟩)
      clear hc
      rcases hc2 with h1 | ⟨h1, h2⟩ | ⟨h1, h2, h3⟩
      all_goals
        go_wp2_with (refine wl_new 34 (.tmp 9) (.tmp 22) rfl rfl _ _ rfl rfl rfl (by rw [Ld.size]; exact Tryd.sizeLand) (by rw [Ld.size, Ld.size]) (land_one _) ?_)
        refine (kacts_any _ V2.out).mono ?_
        rintro e w3 ⟨rfl, hb3⟩
        have BF := hide (B2.out.trans (hb3.mono B2.out.size))
        clear hb3
        go_wp2
        go_ret
        exact ⟨rfl, BF.out⟩
  · have hrb : (refuses L b O.verb != 0) = true := by simp [hr0]
    refine (do_bad L b O _ hwf hr0).mono ?_
    generalize refuses L b O.verb = er at *
    rintro e w1 ⟨rfl, hb1⟩
    have V1 := hide ((V0.out.below hb1 (Nat.le_refl _)).alloc (.cells L.cells 34))
    have B1 := hide ((B0.out.trans (hb1.mono B0.out.size)).alloc (by have := B0.out.size; have := hb1.size; omega) (.cells L.cells 34))
    clear hb1 C0 B0 V0 HN hr0 G0'
    go_wp2_with (refine wl_new 34 (.tmp 9) (.tmp 22) rfl rfl _ _ rfl rfl rfl (by rw [Ld.size]; exact Tryd.sizeLand) (by rw [Ld.size, Ld.size]) (land_one _) ?_)
    refine (kacts_any _ V1.out).mono ?_
    rintro e w3 ⟨rfl, hb3⟩
    have BF := hide (B1.out.trans (hb3.mono B1.out.size))
    clear hb3
    go_wp2
    go_ret
    exact ⟨rfl, BF.out⟩
end Go.Proofs.YtaifjndkgfffpaaDoor
