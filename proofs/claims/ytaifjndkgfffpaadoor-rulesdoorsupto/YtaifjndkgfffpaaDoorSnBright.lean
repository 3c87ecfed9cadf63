/-
  Bright and Hidden: contracts.
-/
import Derived.Test.YtaifjndkgfffpaaDoorSnLeaf
namespace Go.Proofs.YtaifjndkgfffpaaDoor
open Go.RowKit
set_option linter.unusedVariables false

theorem any_no {n : Nat} {f : Nat → Bool} (h : ∀ k, k < n → f k = false) : (List.range n).any f = false := by
  rw [Bool.eq_false_iff]
  intro hc
  obtain ⟨k, hk, hf⟩ := List.any_eq_true.1 hc
  rw [h k (by simpa using hk)] at hf; simp at hf
theorem any_yes {n k : Nat} {f : Nat → Bool} (hk : k < n) (h : f k = true) : (List.range n).any f = true :=
  List.any_eq_true.2 ⟨k, by simpa using hk, h⟩
theorem Cod.dark {w : World} {b : Nat} {L : Ld} (h : Cod w b L) (r : Nat) (hr : r < 6) : w.cell? ⟨b, r * 14 + 1, none⟩ = some (.bool (L.dark r)) := by
  rw [h.cell _ (by omega), L.at_room r 1 hr (by omega)]; rfl

set_option maxRecDepth 100000 in
set_option maxHeartbeats 1000000 in
theorem bright_any (L : Ld) (r : Int) (w : World) :
    Calls Tryd.prog 76 #[.agg L.cells, .int .i64 r] w fun e w' => e = .returned (.bool (brightL L r)) ∧ Below w.heap.size w w' := by
  by_cases h0 : 0 ≤ r
  · obtain ⟨x, rfl⟩ := Int.eq_ofNat_of_zero_le h0
    by_cases h6 : x < 6
    · cases hd : L.dark x with
      | false =>
        have HV := hide (show brightL L (x : Int) = true by simp [brightL, hd, amg]; omega)
        have c1 := (cod_new w L).dark x h6
        rw [hd] at c1
        clear hd
        go_enter Tryd.func76, Tryd.ntmps76
        go_wp2
        go_ret
        exact ⟨ret_bool HV.out.symm, (gd_start L w).low⟩
      | true =>
        have HV := hide (show brightL L (x : Int) = (List.range 9).any (shines L (x : Int)) by
          have : amg (x : Int) 6 = true := amg_mk (by omega) (by omega)
          simp [brightL, hd, this])
        have c1 := (cod_new w L).dark x h6
        rw [hd] at c1
        clear hd
        go_enter Tryd.func76, Tryd.ntmps76
        go_wp2_with (refine wl_things (.tmp 21) rfl rfl _ L rfl (cod_new w L) ?_)
        clear c1
        go_loopw [23] (fun c wr => ∃ k : Nat, k ≤ 9 ∧ c = .int .i64 k ∧ GdRel L w wr ∧ ∀ j, j < k → shines L (x : Int) j = false) (fun c _ => 9 - (intOf c).toNat)
        case atStart => exact ⟨0, by omega, rfl, gd_start L w, fun j h => by omega⟩
        case round =>
          obtain ⟨k, hle, rfl, R, hall⟩ := hrel
          have HR := hide R
          have HA := hide hall
          clear R hall
          have NX : Hid (shines L (x : Int) k = false → ∀ j, j < k + 1 → shines L (x : Int) j = false) := fun h j hj => by
            rcases Nat.lt_or_ge j k with h' | h'
            · exact HA.out j h'
            · rw [show j = k by omega]; exact h
          by_cases hk : k < 9
          · cases h1 : (L.kind k != 1) with
            | true =>
              have HN := hide (NX.out (by have : L.kind k ≠ 1 := by simpa using h1
                                          simp [shines, this]))
              go_wp2_with (first | (refine wl_ithingT (.tmp 22) (.tmp 23) rfl rfl k L rfl rfl hk ?_) | (refine wl_new 28 (.tmp 6) (.tmp 26) rfl rfl _ _ rfl rfl rfl Tryd.sizeThing rfl rfl ?_))
              go_roundw
              case rel => exact ⟨k + 1, by omega, by go_num, HR.out.box _, HN.out⟩
              case measure => simp [intOf]; omega
            | false =>
              have HK := hide (show L.kind k = 1 by simpa using h1)
              cases h2 : L.on k with
              | false =>
                have HN := hide (NX.out (by simp [shines, h2]))
                go_wp2_with (first | (refine wl_ithingT (.tmp 22) (.tmp 23) rfl rfl k L rfl rfl hk ?_) | (refine wl_new 28 (.tmp 6) (.tmp 26) rfl rfl _ _ rfl rfl rfl Tryd.sizeThing rfl rfl ?_))
                go_roundw
                case rel => exact ⟨k + 1, by omega, by go_num, HR.out.box _, HN.out⟩
                case measure => simp [intOf]; omega
              | true =>
                have HO := hide h2
                go_wp2_with (first | (refine wl_ithingT (.tmp 22) (.tmp 23) rfl rfl k L rfl rfl hk ?_) | (refine wl_new 28 (.tmp 6) (.tmp 26) rfl rfl _ _ rfl rfl rfl Tryd.sizeThing rfl rfl ?_) | (refine wl_land (.tmp 2) rfl rfl _ L rfl (HR.out.box _).cod ?_))
                clear h1 h2
                refine (room_any L (k : Int) _).mono ?_
                rintro e w1 ⟨rfl, hb⟩
                have R1 := hide ((HR.out.box _).call hb)
                clear hb
                have HS := hide (show shines L (x : Int) k = ((roomL L (k : Int)).2 && decide ((roomL L (k : Int)).1 = (x : Int))) by simp [shines, HK.out, HO.out])
                generalize roomL L (k : Int) = rr at *
                obtain ⟨rm, op⟩ := rr
                cases h3 : (rm == (x : Int)) with
                | false =>
                  have HN := hide (NX.out (by rw [HS.out]; have : ¬ rm = (x : Int) := by simpa using h3
                                              simp [this]))
                  go_wp2
                  go_roundw
                  case rel => exact ⟨k + 1, by omega, by go_num, R1.out, HN.out⟩
                  case measure => simp [intOf]; omega
                | true =>
                  cases op with
                  | false =>
                    have HN := hide (NX.out (by rw [HS.out]; rfl))
                    go_wp2
                    go_roundw
                    case rel => exact ⟨k + 1, by omega, by go_num, R1.out, HN.out⟩
                    case measure => simp [intOf]; omega
                  | true =>
                    have HN := hide (show brightL L (x : Int) = true by
                      rw [HV.out]; refine any_yes hk ?_
                      rw [HS.out]; have : rm = (x : Int) := by simpa using h3
                      simp [this])
                    go_wp2
                    go_ret
                    exact ⟨ret_bool HN.out.symm, R1.out.low⟩
          · have HN := hide (show brightL L (x : Int) = false by rw [HV.out]; exact any_no fun j hj => HA.out j (by omega))
            go_wp2
            go_ret
            exact ⟨ret_bool HN.out.symm, HR.out.low⟩
    · have HV := hide (show brightL L (x : Int) = false by
        have : amg (x : Int) 6 = false := amg_no (by omega)
        simp [brightL, this])
      go_enter Tryd.func76, Tryd.ntmps76
      go_wp2
      go_ret
      exact ⟨ret_bool HV.out.symm, (gd_start L w).low⟩
  · have HV := hide (show brightL L r = false by
      have : amg r 6 = false := amg_no (by omega)
      simp [brightL, this])
    go_enter Tryd.func76, Tryd.ntmps76
    go_wp2
    go_ret
    exact ⟨ret_bool HV.out.symm, (gd_start L w).low⟩

theorem has_hidden (L : Ld) (b : Int) : (∀ x ∈ hasK L 1 b 9, (decide (L.kind x.toNat = 2) && L.on x.toNat) = false) → hiddenL L b = false := by
  intro h
  refine any_no fun k hk => ?_
  unfold cloaks
  cases h1 : isAt L 1 b k with
  | false => unfold isAt at h1; rw [h1]; rfl
  | true =>
    have := h _ (hasK_of hk h1)
    simp only [Int.toNat_natCast] at this
    unfold isAt at h1
    rw [h1, Bool.true_and, this]

set_option maxRecDepth 100000 in
set_option maxHeartbeats 1000000 in
theorem hidden_any (L : Ld) (b : Int) (w : World) :
    Calls Tryd.prog 106 #[.agg L.cells, .int .i64 b] w fun e w' => e = .returned (.bool (hiddenL L b)) ∧ Below w.heap.size w w' := by
  have HH := hide (has_hidden L b)
  have HM : Hid (∀ x ∈ hasK L 1 b 9, ∃ i : Nat, x = (i : Int) ∧ i < 9 ∧ isAt L 1 b i = true) := fun x hx => hasK_mem hx
  have HL := hide (hasK_len L 1 b 9)
  go_enter Tryd.func106, Tryd.ntmps106
  go_wp2_with (refine wl_land (.tmp 2) rfl rfl _ L rfl (cod_new w L) ?_)
  refine (has_any L 1 b _).mono ?_
  rintro e w1 ⟨v, rfl, hn, hb⟩
  have G1 := hide ((gd_start L w).call hb)
  clear hb
  generalize hasK L 1 b 9 = q at *
  obtain ⟨av, cap, rfl, hl, hm, hc⟩ := hn
  have HC := hide hc
  clear hc
  generalize hqn : q.length = n at *
  have HQ := hide hqn
  clear hqn
  unfold maxLen at hm
  have h9 := HL.out
  go_wp2
  go_loopw [12] (fun c wr => ∃ k : Nat, k ≤ n ∧ c = .int .i64 k ∧ GdRel L w wr ∧ Below w1.heap.size w1 wr ∧ ∀ x ∈ q.take k, (decide (L.kind x.toNat = 2) && L.on x.toNat) = false) (fun c _ => n - (intOf c).toNat)
  case atStart => exact ⟨0, by omega, rfl, G1.out, Below.refl _ _, fun x h => by simp at h⟩
  case round =>
    obtain ⟨k, hle, rfl, R, hb, hall⟩ := hrel
    by_cases hk : k < n
    · obtain ⟨bb, off, rfl, hcell⟩ := HC.out (by omega)
      have hkq : k < q.length := by rw [HQ.out]; exact hk
      have hmem := getD_mem hkq
      obtain ⟨i, hi, hi9, hat⟩ := HM.out _ hmem
      have c0 := hcell k hk
      rw [hi] at c0
      have c1 : wr.cell? ⟨bb, off + k, none⟩ = some (.int .i64 (i : Int)) := by
        rw [hb.cell (p := ⟨bb, off + k, none⟩) (cell_lt c0)]; exact c0
      have NX : Hid ((decide (L.kind i = 2) && L.on i) = false → ∀ x ∈ q.take (k + 1), (decide (L.kind x.toNat = 2) && L.on x.toNat) = false) := fun h x hx => by
        by_cases hx' : x ∈ q.take k
        · exact hall x hx'
        · have := mem_take_succ hkq hx hx'
          rw [hi] at this
          rw [← this]; simpa using h
      have HY : Hid ((decide (L.kind i = 2) && L.on i) = true → hiddenL L b = true) := fun h => any_yes (f := cloaks L b) hi9 (by
        unfold isAt at hat
        unfold cloaks
        rw [hat, Bool.true_and]; exact h)
      have HR := hide R
      have HB := hide hb
      clear R hb hall hcell hmem hi hat c0 HC
      cases h1 : (L.kind i == 2) with
      | false =>
        have HN := hide (NX.out (by have : ¬ L.kind i = 2 := by simpa using h1
                                    simp [this]))
        go_wp2_with (first | (refine wl_thing (.tmp 18) rfl rfl _ i L rfl HR.out.cod hi9 ?_) | (refine wl_new 28 (.tmp 7) (.tmp 19) rfl rfl _ _ rfl rfl rfl Tryd.sizeThing rfl rfl ?_))
        go_roundw
        case rel => exact ⟨k + 1, by omega, by go_num, HR.out.box _, HB.out.alloc HB.out.size _, HN.out⟩
        case measure => simp [intOf]; omega
      | true =>
        have HK := hide (show L.kind i = 2 by simpa using h1)
        cases h2 : L.on i with
        | false =>
          have HN := hide (NX.out (by simp [h2]))
          go_wp2_with (first | (refine wl_thing (.tmp 18) rfl rfl _ i L rfl HR.out.cod hi9 ?_) | (refine wl_new 28 (.tmp 7) (.tmp 19) rfl rfl _ _ rfl rfl rfl Tryd.sizeThing rfl rfl ?_))
          go_roundw
          case rel => exact ⟨k + 1, by omega, by go_num, HR.out.box _, HB.out.alloc HB.out.size _, HN.out⟩
          case measure => simp [intOf]; omega
        | true =>
          have HN := hide (HY.out (by simp [h2, HK.out]))
          go_wp2_with (first | (refine wl_thing (.tmp 18) rfl rfl _ i L rfl HR.out.cod hi9 ?_) | (refine wl_new 28 (.tmp 7) (.tmp 19) rfl rfl _ _ rfl rfl rfl Tryd.sizeThing rfl rfl ?_))
          go_ret
          exact ⟨ret_bool HN.out.symm, (HR.out.box _).low⟩
    · have HN := hide (HH.out (by rw [List.take_of_length_le (by rw [HQ.out]; omega)] at hall; exact hall))
      have HR := hide R
      clear R hb hall
      go_wp2
      go_ret
      exact ⟨ret_bool HN.out.symm, HR.out.low⟩
end Go.Proofs.YtaifjndkgfffpaaDoor
