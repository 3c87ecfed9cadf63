/-
  The document's own TellOf, for the actor: its contract.
-/
import Derived.Test.YtdembcpljjgbkadDoorSnTkR
namespace Go.Proofs.YtdembcpljjgbkadDoor
open Go.RowKit
set_option linter.unusedVariables false

set_option maxRecDepth 100000 in
set_option maxHeartbeats 8000000 in
theorem tellof_a (E : Ev) (k : Nat) (hk6 : k < 6) (w : World) (hvr : Vr w) (hit : It w) (hF : Fit E) (h1 : bitB (E.by' k) 1 = true) (hN : (k : Int) = E.actor) (hk9 : E.kind ≤ 4) :
    Calls Tryd.prog 25 #[.agg E.cells, .int .i64 (k : Int)] w fun e w' => e = .returned (tellA (tellL E (k : Int))) ∧ Below w.heap.size w w' := by
  have HVr := hide hvr
  have HIt := hide hit
  have HF := hide hF
  have HK9 := hide hk9
  have hmf : ∀ (fn : Fn) (first cap : Array Value) (w : World), (Instr.makeFunc fn first cap).run Tryd.prog w = .ok (.func fn first cap) w := fun _ _ _ _ => rfl
  have P0 := hide (tv_start E w)
  have HNN := hide hN
  clear hvr hit hF hN hk9
  have hb0 : 0 ≤ (k : Int) := by omega
  have kb := P0.out.cev.by' k hk6
  have ham : amg (k : Int) 6 = true := amg_mk (by omega) (by omega)
  have f1 : ((E.by' k).tmod 2 == 0) = false := by
    have : ¬ bits .and .i64 (E.by' k) 1 = 0 := by unfold bitB at h1; simpa using h1
    rw [and_one] at this; simp [this]
  have HS : Hid (formOf E k ≠ [] → tellL E (k : Int) = some (fillL (asKnown E k) (formOf E k))) := fun h => tell_some ham h1 h
  have HZ : Hid (formOf E k = [] → tellL E (k : Int) = none) := fun h => tell_none (.inr (.inr h))
  obtain ⟨M, hM⟩ : ∃ M : ByteArray, M = (if bitB (E.by' k) 4 = true then bs someoneL else E.whom) := ⟨_, rfl⟩
  have HM := hide hM
  clear hM
  have kw : E.cells[6]? = some (.string E.who) := rfl
  have km : E.cells[7]? = some (.string E.whom) := rfl
  clear h1 ham
  go_enter Tryd.func25, Tryd.ntmps25
  go_wp2_with fail
  go_cut [6, 7] (fun p o wc => p = .pointer (some ⟨w.heap.size + 1, 0, none⟩) ∧ o = .string E.whom ∧ TkRel E E.who w wc)
  case first =>
    go_region
    all_goals go_wp2
    all_goals go_meet
    all_goals exact ⟨by simp, rfl, (tk_start E E.who w).drew⟩
  case rest =>
    obtain ⟨rfl, rfl, T1⟩ := hcut
    have T1 := hide T1
    have kb := T1.out.cev.by' k hk6
    have ka := T1.out.name
    have kf := T1.out.soft
    clear kw km
    go_upto_if 38 with fail
    go_cut [] (fun wc => TkRel E (asKnown E k).who w wc)
    case first =>
      cases hA : bitB (E.by' k) 2 with
      | true =>
        have fA : (bits .and .i64 (E.by' k) 2 != 0) = true := hA
        have HK := hide (show (asKnown E k).who = bs someoneL by show (if bitB (E.by' k) 2 = true then bs someoneL else E.who) = _; rw [if_pos hA])
        have HW := hide (T1.out.set (bs someoneL))
        clear hA
        go_wp2
        go_meet
        rw [HK.out]
        exact HW.out
      | false =>
        have fA : (bits .and .i64 (E.by' k) 2 != 0) = false := hA
        have HK := hide (show (asKnown E k).who = E.who by show (if bitB (E.by' k) 2 = true then bs someoneL else E.who) = _; rw [if_neg (by rw [hA]; simp)])
        clear hA
        go_wp2
        go_meet
        rw [HK.out]
        exact T1.out
    case rest =>
      have T2 := hide hcut
      have kb2 := T2.out.cev.by' k hk6
      clear hcut T1 ka kf kb
      go_upto_if 44 with fail
      go_cut [7] (fun o wc => o = .string M ∧ TkRel E (asKnown E k).who w wc)
      case first =>
        cases hB : bitB (E.by' k) 4 with
        | true =>
          have fB : (bits .and .i64 (E.by' k) 4 != 0) = true := hB
          go_wp2
          go_meet
          exact ⟨by rw [HM.out, if_pos hB]; rfl, T2.out⟩
        | false =>
          have fB : (bits .and .i64 (E.by' k) 4 != 0) = false := hB
          go_wp2
          go_meet
          exact ⟨by rw [HM.out, if_neg (by rw [hB]; simp)], T2.out⟩
      case rest =>
        obtain ⟨rfl, T3⟩ := hcut
        have T3 := hide T3
        have ko := T3.out.cev.othr
        clear T2 kb2
        go_upto_if 48 with fail
        go_cut [7] (fun o wc => o = .string (asKnown E k).whom ∧ TkRel E (asKnown E k).who w wc)
        case first =>
          by_cases hO : (k : Int) = E.other
          · have fO : ((k : Int) == E.other) = true := by simp [hO]
            have HK := hide (show (asKnown E k).whom = bs youL by show (if (k : Int) = E.other then bs youL else (if bitB (E.by' k) 4 = true then bs someoneL else E.whom)) = _; rw [if_pos hO])
            clear hO
            go_wp2
            go_meet
            exact ⟨by rw [HK.out]; rfl, T3.out⟩
          · have fO : ((k : Int) == E.other) = false := by simp [hO]
            have HK := hide (show (asKnown E k).whom = M by rw [HM.out]; show (if (k : Int) = E.other then bs youL else (if bitB (E.by' k) 4 = true then bs someoneL else E.whom)) = _; rw [if_neg hO])
            clear hO
            go_wp2
            go_meet
            exact ⟨by rw [HK.out], T3.out⟩
        case rest =>
          obtain ⟨rfl, T4⟩ := hcut
          have T4d := T4.drew
          clear T3 ko T4
          go_wp2_with fail
          go_cut [8, 9] (fun d n wc => d = .string (bs (calledI E.dir)) ∧ n = .string (bs (Lib.itoa E.num)) ∧ TkRel E (asKnown E k).who w wc)
          case first =>
            have c4 : wc.drew.cell? ⟨w.heap.size, 4, none⟩ = some (.int .i64 E.dir) := T4d.cev.dir
            have c5 : wc.drew.cell? ⟨w.heap.size, 5, none⟩ = some (.int .i64 E.num) := T4d.cev.num
            have T4h := hide T4d
            clear T4d
            go_region_with (first | (go_at_call 43; refine (calledof_any E.dir _ (HVr.out.below T4h.out.low (Nat.le_refl _))).mono ?_; rintro e x1 ⟨rfl, hx1⟩; rw [hx1]; clear hx1 x1) | (go_at_call 44; refine (HIt.out _ E.num T4h.out.low HF.out.n0 HF.out.n1).mono ?_; rintro e x2 ⟨rfl, hb⟩; have S2 := hide (T4h.out.call hb); clear hb))
            all_goals go_wp2_with fail
            all_goals go_meet
            all_goals exact ⟨rfl, rfl, S2.out⟩
          case rest =>
            obtain ⟨rfl, rfl, T5⟩ := hcut
            have T5 := hide T5
            have ka := T5.out.cev.actor
            have HKF := hide (fit_known HF.out k)
            have hz2 : (bs (calledI E.dir)).size ≤ 5 := by rw [bs_size]; exact called_len _
            have hz4 := HKF.out.whom
            have hz5 := HF.out.text
            have hz6 : (bs (Lib.itoa E.num)).size ≤ 21 := by rw [bs_size]; exact Lib.itoa_length_le _ HF.out.n0 HF.out.n1
            have hz7 := HKF.out.who
            have hn1 := tail_some
            have hn2 := verb_some
            have hn3 : (⟨#[89, 111, 117, 32, 100, 105, 101, 46]⟩ : ByteArray).toList.isEmpty = false := by rw [Lib.toList_data]; rfl
            have hn4 : (⟨#[66, 101, 32, 119, 101, 108, 99, 111, 109, 101, 46]⟩ : ByteArray).toList.isEmpty = false := by rw [Lib.toList_data]; rfl
            clear T4d
            have hN := HNN.out
            have fN : ((k : Int) == E.actor) = true := by simp [hN]
            have hform := hide (show formOf E k = formA E.kind by unfold formOf; rw [if_pos hN])
            have T6 := hide (T5.out.box (.cells #[.bool true] 4))
            have ko := hide (cell_new (w := wc) rfl (.bool true) 4)
            have kk := T6.out.cev.kind
            have kt := T6.out.cev.text
            have kn := T6.out.name
            have hz3 := the_size true E.thing HF.out.thing
            clear hN
            rcases kind_cases E.kind with hk | hk | hk | hk | hk | hk | hk | hk | hk | hk | hk | hk | hk | hk | hk | hk | hk | hk | hk
            · have HT := hide (show tellL E (k : Int) = some (fillL (asKnown E k) (formA 1)) by
                have h := HS.out (by rw [hform.out, hk]; decide)
                rw [hform.out, hk] at h; exact h)
              rw [hk] at kk
              clear hk
              have hz := verb_size true (asKnown E k).who ⟨#[103, 111]⟩ ⟨#[103, 111, 101, 115]⟩ HKF.out.who (by decide) (by decide)
              go_wp2_with fail
              refine (verb_any' true _ ⟨#[103, 111]⟩ ⟨#[103, 111, 101, 115]⟩ ⟨wc.heap.size, 0, none⟩ ⟨w.heap.size + 1, 0, none⟩ _ ko.out T6.out.name HKF.out.who (by decide) (by decide)).mono ?_
              rintro e w9 ⟨rfl, hw⟩
              rw [hw]
              clear hw w9
              go_wp2
              go_ret2
              exact ⟨ret_line HT.out (line1a (asKnown E k) _ _ rfl rfl), T6.out.low⟩
            · have HT := hide (HZ.out (by rw [hform.out, hk]; rfl))
              rw [hk] at kk
              clear hk
              go_wp2
              go_ret2
              exact ⟨ret_noline HT.out, T6.out.low⟩
            · have HT := hide (show tellL E (k : Int) = some (fillL (asKnown E k) (formA 3)) by
                have h := HS.out (by rw [hform.out, hk]; decide)
                rw [hform.out, hk] at h; exact h)
              rw [hk] at kk
              clear hk
              have hz := verb_size true (asKnown E k).who ⟨#[103, 101, 116]⟩ ⟨#[103, 101, 116, 115]⟩ HKF.out.who (by decide) (by decide)
              go_wp2_with fail
              refine (verb_any' true _ ⟨#[103, 101, 116]⟩ ⟨#[103, 101, 116, 115]⟩ ⟨wc.heap.size, 0, none⟩ ⟨w.heap.size + 1, 0, none⟩ _ ko.out T6.out.name HKF.out.who (by decide) (by decide)).mono ?_
              rintro e w9 ⟨rfl, hw⟩
              rw [hw]
              clear hw w9
              go_wp2_with fail
              refine (the_any' true E ⟨wc.heap.size, 0, none⟩ w.heap.size _ ko.out T6.out.cev HF.out.thing).mono ?_
              rintro e w9 ⟨rfl, hw⟩
              rw [hw]
              clear hw w9
              go_wp2
              go_ret2
              exact ⟨ret_line HT.out (line3a (asKnown E k) _ _ rfl rfl), T6.out.low⟩
            · have HT := hide (show tellL E (k : Int) = some (fillL (asKnown E k) (formA 4)) by
                have h := HS.out (by rw [hform.out, hk]; decide)
                rw [hform.out, hk] at h; exact h)
              rw [hk] at kk
              clear hk
              have hz := verb_size true (asKnown E k).who ⟨#[100, 114, 111, 112]⟩ ⟨#[100, 114, 111, 112, 115]⟩ HKF.out.who (by decide) (by decide)
              go_wp2_with fail
              refine (verb_any' true _ ⟨#[100, 114, 111, 112]⟩ ⟨#[100, 114, 111, 112, 115]⟩ ⟨wc.heap.size, 0, none⟩ ⟨w.heap.size + 1, 0, none⟩ _ ko.out T6.out.name HKF.out.who (by decide) (by decide)).mono ?_
              rintro e w9 ⟨rfl, hw⟩
              rw [hw]
              clear hw w9
              go_wp2_with fail
              refine (the_any' true E ⟨wc.heap.size, 0, none⟩ w.heap.size _ ko.out T6.out.cev HF.out.thing).mono ?_
              rintro e w9 ⟨rfl, hw⟩
              rw [hw]
              clear hw w9
              go_wp2
              go_ret2
              exact ⟨ret_line HT.out (line4a (asKnown E k) _ _ rfl rfl), T6.out.low⟩
            · exfalso; rw [hk] at HK9; exact absurd HK9.out (by decide)
            · exfalso; rw [hk] at HK9; exact absurd HK9.out (by decide)
            · exfalso; rw [hk] at HK9; exact absurd HK9.out (by decide)
            · exfalso; rw [hk] at HK9; exact absurd HK9.out (by decide)
            · exfalso; rw [hk] at HK9; exact absurd HK9.out (by decide)
            · exfalso; rw [hk] at HK9; exact absurd HK9.out (by decide)
            · exfalso; rw [hk] at HK9; exact absurd HK9.out (by decide)
            · exfalso; rw [hk] at HK9; exact absurd HK9.out (by decide)
            · exfalso; rw [hk] at HK9; exact absurd HK9.out (by decide)
            · exfalso; rw [hk] at HK9; exact absurd HK9.out (by decide)
            · exfalso; rw [hk] at HK9; exact absurd HK9.out (by decide)
            · exfalso; rw [hk] at HK9; exact absurd HK9.out (by decide)
            · exfalso; rw [hk] at HK9; exact absurd HK9.out (by decide)
            · exfalso; rw [hk] at HK9; exact absurd HK9.out (by decide)
            · have HT := hide (HZ.out (by rw [hform.out]; exact formA_none hk))
              have e1 : (E.kind == 1) = false := by unfold isKind at hk; simp; omega
              have e2 : (E.kind == 2) = false := by unfold isKind at hk; simp; omega
              have e3 : (E.kind == 3) = false := by unfold isKind at hk; simp; omega
              have e4 : (E.kind == 4) = false := by unfold isKind at hk; simp; omega
              have e5 : (E.kind == 5) = false := by unfold isKind at hk; simp; omega
              have e6 : (E.kind == 6) = false := by unfold isKind at hk; simp; omega
              have e7 : (E.kind == 7) = false := by unfold isKind at hk; simp; omega
              have e8 : (E.kind == 8) = false := by unfold isKind at hk; simp; omega
              have e9 : (E.kind == 9) = false := by unfold isKind at hk; simp; omega
              have e10 : (E.kind == 10) = false := by unfold isKind at hk; simp; omega
              have e11 : (E.kind == 11) = false := by unfold isKind at hk; simp; omega
              have e12 : (E.kind == 12) = false := by unfold isKind at hk; simp; omega
              have e13 : (E.kind == 13) = false := by unfold isKind at hk; simp; omega
              have e14 : (E.kind == 14) = false := by unfold isKind at hk; simp; omega
              have e15 : (E.kind == 15) = false := by unfold isKind at hk; simp; omega
              have e16 : (E.kind == 16) = false := by unfold isKind at hk; simp; omega
              have e17 : (E.kind == 17) = false := by unfold isKind at hk; simp; omega
              have e18 : (E.kind == 18) = false := by unfold isKind at hk; simp; omega
              clear hk
              go_wp2
              go_ret2
              exact ⟨ret_noline HT.out, T6.out.low⟩
end Go.Proofs.YtdembcpljjgbkadDoor
