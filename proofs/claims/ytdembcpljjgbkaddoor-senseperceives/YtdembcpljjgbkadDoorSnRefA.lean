/-
  The document's own about, IsHidden, root, RoomOf, IsBright: contracts.
-/
import Derived.Test.YtdembcpljjgbkadDoorSnBright
import Derived.Test.YtdembcpljjgbkadDoorMbSet
namespace Go.Proofs.YtdembcpljjgbkadDoor
open Go.RowKit
set_option linter.unusedVariables false

set_option maxHeartbeats 400000 in
theorem about_any (L : Ld) (b : Int) (w : World) :
    Calls Tryd.prog 37 #[.agg L.cells, .int .i64 b] w fun e w' => e = .returned (.bool (abtL L b)) ∧ Below w.heap.size w w' := by
  have hb : Hid (Below w.heap.size w (w.alloc (.cells L.cells 46))) := (Below.refl _ _).alloc (Nat.le_refl _) _
  by_cases h0 : 0 ≤ b
  · obtain ⟨k, rfl⟩ := Int.eq_ofNat_of_zero_le h0
    by_cases h6 : k < 6
    · have HV := hide (show abtL L (k : Int) = L.here k by simp [abtL, amg]; omega)
      have c1 : (w.alloc (.cells L.cells 46)).cell? ⟨w.heap.size, 129 + k * 6 + 1, none⟩ = some (.bool (L.here k)) := (cod_new w L).being k 1 (by omega) (by omega)
      go_enter Tryd.func37, Tryd.ntmps37
      go_wp2
      go_ret
      exact ⟨ret_bool HV.out.symm, hb.out⟩
    · have HV := hide (show abtL L (k : Int) = false by simp [abtL, amg]; omega)
      go_enter Tryd.func37, Tryd.ntmps37
      go_wp2
      go_ret
      exact ⟨ret_bool HV.out.symm, hb.out⟩
  · have HV := hide (show abtL L b = false by simp [abtL, amg]; omega)
    go_enter Tryd.func37, Tryd.ntmps37
    go_wp2
    go_ret
    exact ⟨ret_bool HV.out.symm, hb.out⟩

set_option maxRecDepth 100000 in
set_option maxHeartbeats 1000000 in
theorem ishidden_any (L : Ld) (b : Int) (w : World) :
    Calls Tryd.prog 16 #[.agg L.cells, .int .i64 b] w fun e w' => e = .returned (.bool (hiddenL L b)) ∧ Below w.heap.size w w' := by
  go_enter Tryd.func16, Tryd.ntmps16
  go_wp2_with (refine wl_things (.tmp 7) rfl rfl _ L rfl (cod_new w L) ?_)
  go_loopw [9] (fun c wr => ∃ k : Nat, k ≤ 9 ∧ c = .int .i64 k ∧ GdRel L w wr ∧ ∀ j, j < k → cloaks L b j = false) (fun c _ => 9 - (intOf c).toNat)
  case atStart => exact ⟨0, by omega, rfl, gd_start L w, fun j h => by omega⟩
  case round =>
    obtain ⟨k, hle, rfl, R, hall⟩ := hrel
    have HR := hide R
    have HA := hide hall
    clear R hall
    have NX : Hid (cloaks L b k = false → ∀ j, j < k + 1 → cloaks L b j = false) := fun h j hj => by
      rcases Nat.lt_or_ge j k with h' | h'
      · exact HA.out j h'
      · rw [show j = k by omega]; exact h
    by_cases hk : k < 9
    · have HC := hide (show cloaks L b k = ((L.wh k == 1) && (L.loc k == b) && (L.kind k == 2) && L.on k) by
        rw [Bool.eq_iff_iff]; simp [cloaks])
      cases h1 : (L.wh k == 1) with
      | false =>
        have HN := hide (NX.out (by rw [HC.out, h1]; rfl))
        go_wp2_with (first | (refine wl_ithingT (.tmp 8) (.tmp 9) rfl rfl k L rfl rfl hk ?_) | (refine wl_new 40 (.tmp 6) (.tmp 11) rfl rfl _ _ rfl rfl rfl Tryd.sizeThing rfl rfl ?_))
        go_roundw
        case rel => exact ⟨k + 1, by omega, by go_num, HR.out.box _, HN.out⟩
        case measure => simp [intOf]; omega
      | true =>
        cases h2 : (L.loc k == b) with
        | false =>
          have HN := hide (NX.out (by rw [HC.out, h2]; simp))
          go_wp2_with (first | (refine wl_ithingT (.tmp 8) (.tmp 9) rfl rfl k L rfl rfl hk ?_) | (refine wl_new 40 (.tmp 6) (.tmp 11) rfl rfl _ _ rfl rfl rfl Tryd.sizeThing rfl rfl ?_))
          go_roundw
          case rel => exact ⟨k + 1, by omega, by go_num, HR.out.box _, HN.out⟩
          case measure => simp [intOf]; omega
        | true =>
          cases h3 : (L.kind k == 2) with
          | false =>
            have HN := hide (NX.out (by rw [HC.out, h3]; simp))
            go_wp2_with (first | (refine wl_ithingT (.tmp 8) (.tmp 9) rfl rfl k L rfl rfl hk ?_) | (refine wl_new 40 (.tmp 6) (.tmp 11) rfl rfl _ _ rfl rfl rfl Tryd.sizeThing rfl rfl ?_))
            go_roundw
            case rel => exact ⟨k + 1, by omega, by go_num, HR.out.box _, HN.out⟩
            case measure => simp [intOf]; omega
          | true =>
            cases h4 : L.on k with
            | false =>
              have HN := hide (NX.out (by rw [HC.out, h4]; simp))
              go_wp2_with (first | (refine wl_ithingT (.tmp 8) (.tmp 9) rfl rfl k L rfl rfl hk ?_) | (refine wl_new 40 (.tmp 6) (.tmp 11) rfl rfl _ _ rfl rfl rfl Tryd.sizeThing rfl rfl ?_))
              go_roundw
              case rel => exact ⟨k + 1, by omega, by go_num, HR.out.box _, HN.out⟩
              case measure => simp [intOf]; omega
            | true =>
              have HN := hide (show hiddenL L b = true from any_yes (f := cloaks L b) hk (by rw [HC.out, h1, h2, h3, h4]; rfl))
              go_wp2_with (first | (refine wl_ithingT (.tmp 8) (.tmp 9) rfl rfl k L rfl rfl hk ?_) | (refine wl_new 40 (.tmp 6) (.tmp 11) rfl rfl _ _ rfl rfl rfl Tryd.sizeThing rfl rfl ?_))
              go_ret
              exact ⟨ret_bool HN.out.symm, (HR.out.box _).low⟩
    · have HN := hide (show hiddenL L b = false from any_no fun j hj => HA.out j (by omega))
      go_wp2
      go_ret
      exact ⟨ret_bool HN.out.symm, HR.out.low⟩

/-! ### The document's way out. -/
/-- The set in block b says yes to a number, as the world is. -/
def SaysYes (b : Nat) (wr : World) (k : Nat) : Prop := (Instr.lookup 98 (.map (some b)) (.int .i64 (k : Int)) false).run Tryd.prog wr = .ok (.bool true) wr

theorem countP_lt {p q : Nat → Bool} : ∀ l : List Nat, (∀ x ∈ l, p x = true → q x = true) → (∃ x ∈ l, p x = false ∧ q x = true) → l.countP p < l.countP q
  | [], _, ⟨x, hx, _⟩ => by simp at hx
  | y :: l, h, ⟨x, hx, h1, h2⟩ => by
    have hle : l.countP p ≤ l.countP q := List.countP_mono_left (fun z hz => h z (List.mem_cons_of_mem _ hz))
    rcases List.mem_cons.1 hx with e | hm
    · subst e
      rw [List.countP_cons, List.countP_cons, h1, h2]
      simp; omega
    · have ih := countP_lt l (fun z hz => h z (List.mem_cons_of_mem _ hz)) ⟨x, hm, h1, h2⟩
      have hy := h y (List.mem_cons_self ..)
      rw [List.countP_cons, List.countP_cons]
      by_cases hp : p y = true
      · rw [if_pos hp, if_pos (hy hp)]; omega
      · rw [if_neg hp]; split <;> omega

theorem Tryd.zeroBool (w : World) : (zeroValue 4).run Tryd.prog w = .ok (.bool false) w := by kernel_rfl

/-- A round's head. -/
structure RtRel (L : Ld) (w : World) (i0 : Int) (i : Int) (o : Bool) (S : List Int) (wr : World) : Prop where
  rt : Rt L i0 S i o
  gd : GdRel L w wr
  seen : Seen Tryd.prog 3 4 wr (w.heap.size + 1) S.length (fun j => decide (j ∈ S))

theorem wf_small (k : Nat) (hk : k < 9) : (Lit.int .i64 (k : Int)).wf = true := by
  rcases (show k = 0 ∨ k = 1 ∨ k = 2 ∨ k = 3 ∨ k = 4 ∨ k = 5 ∨ k = 6 ∨ k = 7 ∨ k = 8 by omega) with rfl | rfl | rfl | rfl | rfl | rfl | rfl | rfl | rfl <;> rfl

set_option maxRecDepth 100000 in
theorem says_of {S : List Int} {wr : World} {b n : Nat} (h : Seen Tryd.prog 3 4 wr b n (fun j => decide (j ∈ S))) (k : Nat) (hk : k < 9) : SaysYes b wr k ↔ (k : Int) ∈ S := by
  have := h.ask (t := 98) Tryd.underlying3 Tryd.underlying98 Tryd.underlying4 (Tryd.zeroBool wr) (wf_small k hk)
  unfold SaysYes
  rw [this]
  simp

theorem notYet_lt {S : List Int} {wr wr' : World} {b n n' : Nat} {i : Nat} (hi : i < 9) (hn : (i : Int) ∉ S) (h : Seen Tryd.prog 3 4 wr b n (fun j => decide (j ∈ S))) (h' : Seen Tryd.prog 3 4 wr' b n' (fun j => decide (j ∈ S ++ [(i : Int)]))) :
    9 - (List.range 9).countP (fun k => @decide (SaysYes b wr' k) (Classical.propDecidable _)) < 9 - (List.range 9).countP (fun k => @decide (SaysYes b wr k) (Classical.propDecidable _)) := by
  have hlt := countP_lt (p := fun k : Nat => @decide (SaysYes b wr k) (Classical.propDecidable _)) (q := fun k : Nat => @decide (SaysYes b wr' k) (Classical.propDecidable _)) (List.range 9) (fun x hx hp => by
      have hx9 : x < 9 := by simpa using hx
      simp only [decide_eq_true_eq] at hp ⊢
      rw [says_of h x hx9] at hp
      rw [says_of h' x hx9]
      exact List.mem_append_left _ hp) ⟨i, by simpa using hi, by
        simp only [decide_eq_false_iff_not]
        rw [says_of h i hi]; exact hn, by
        simp only [decide_eq_true_eq]
        rw [says_of h' i hi]; simp⟩
  have hle : (List.range 9).countP (fun k : Nat => @decide (SaysYes b wr' k) (Classical.propDecidable _)) ≤ 9 := by
    have := List.countP_le_length (p := fun k : Nat => @decide (SaysYes b wr' k) (Classical.propDecidable _)) (l := List.range 9)
    simpa using this
  omega
end Go.Proofs.YtdembcpljjgbkadDoor
