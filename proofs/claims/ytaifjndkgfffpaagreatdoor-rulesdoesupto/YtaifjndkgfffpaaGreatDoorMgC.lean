/-
  Whether there is such a being, whether it is about, what is heard unseen, what is at a place: contracts.
-/
import Derived.Test.YtaifjndkgfffpaaGreatDoorMgB
import Derived.Test.YtaifjndkgfffpaaGreatDoorMgA
import Derived.Test.YtaifjndkgfffpaaGreatDoorBs
namespace Go.Proofs.YtaifjndkgfffpaaGreatDoor
open Go.RowKit
set_option linter.unusedVariables false

theorem sbeing_any (i : Int) (w : World) : Calls Tryz.prog 99 #[.int .i64 i] w fun e w' => e = .returned (.bool (amg i 6)) ∧ w' = w := by
  by_cases h0 : 0 ≤ i
  · go_enter Tryz.func99, Tryz.ntmps99
    go_wp2
    go_ret
    exact ⟨ret_bool (by simp [amg, h0]), rfl⟩
  · go_enter Tryz.func99, Tryz.ntmps99
    go_wp2
    go_ret
    exact ⟨ret_bool (by simp only [amg]; rw [decide_eq_false (by omega)]; rfl), rfl⟩

theorem unseen_any (k : Int) (w : World) : Calls Tryz.prog 98 #[.int .i64 k] w fun e w' => e = .returned (.bool (loud k)) ∧ w' = w := by
  have HV : Hid (∀ b : Bool, (b = true ↔ (k = 7 ∨ k = 14 ∨ k = 15)) → b = loud k) := by
    intro b hb
    rw [Bool.eq_iff_iff, hb]
    simp [loud, or_assoc]
  by_cases h7 : k = 7
  · subst h7
    go_enter Tryz.func98, Tryz.ntmps98
    go_wp2
    go_ret
    exact ⟨rfl, rfl⟩
  · by_cases h14 : k = 14
    · subst h14
      go_enter Tryz.func98, Tryz.ntmps98
      go_wp2
      go_ret
      exact ⟨rfl, rfl⟩
    · have e7 : (k == 7) = false := by simp [h7]
      have e14 : (k == 14) = false := by simp [h14]
      have H7 := hide h7
      have H14 := hide h14
      clear h7 h14
      go_enter Tryz.func98, Tryz.ntmps98
      go_wp2
      go_ret
      exact ⟨ret_bool (HV.out _ (by have h7 := H7.out; have h14 := H14.out; simp [h7, h14])), rfl⟩

set_option maxHeartbeats 400000 in
theorem shere_any (L : Ld) (b : Int) (w : World) :
    Calls Tryz.prog 93 #[.agg L.cells, .int .i64 b] w fun e w' => e = .returned (.bool (abtL L b)) ∧ Below w.heap.size w w' := by
  have hb : Hid (Below w.heap.size w (w.alloc (.cells L.cells 34))) := (Below.refl _ _).alloc (Nat.le_refl _) _
  cases ha : amg b 6 with
  | false =>
    have HV := hide (show abtL L b = false by simp [abtL, ha])
    go_enter Tryz.func93, Tryz.ntmps93
    go_wp2_with fail
    refine (sbeing_any b _).mono ?_
    rintro e w1 ⟨rfl, hw⟩
    rw [hw, ha]
    clear hw w1 ha
    go_wp2
    go_ret
    exact ⟨ret_bool HV.out.symm, hb.out⟩
  | true =>
    obtain ⟨h0, h6⟩ := amg_pos ha
    obtain ⟨k, rfl⟩ := Int.eq_ofNat_of_zero_le h0
    have HV := hide (show abtL L (k : Int) = L.here k by simp [abtL, ha])
    have c1 : (w.alloc (.cells L.cells 34)).cell? ⟨w.heap.size, 129 + k * 6 + 1, none⟩ = some (.bool (L.here k)) := (cod_new w L).being k 1 (by omega) (by omega)
    have HA := hide ha
    clear ha
    go_enter Tryz.func93, Tryz.ntmps93
    go_wp2_with fail
    refine (sbeing_any (k : Int) _).mono ?_
    rintro e w1 ⟨rfl, hw⟩
    rw [hw, HA.out]
    clear hw w1
    go_wp2
    go_ret
    exact ⟨ret_bool HV.out.symm, hb.out⟩

/-! ### What is at a place. -/
def isAt (L : Ld) (wh loc : Int) (i : Nat) : Bool := decide (L.wh i = wh) && decide (L.loc i = loc)
def hasK (L : Ld) (wh loc : Int) (k : Nat) : List Int := ((List.range k).filter (isAt L wh loc)).map Int.ofNat
theorem hasK_yes {L : Ld} {wh loc : Int} {k : Nat} (h : isAt L wh loc k = true) : hasK L wh loc (k + 1) = hasK L wh loc k ++ [(k : Int)] := by
  simp [hasK, List.range_succ, List.filter_append, h]
theorem hasK_no {L : Ld} {wh loc : Int} {k : Nat} (h : isAt L wh loc k = false) : hasK L wh loc (k + 1) = hasK L wh loc k := by
  simp [hasK, List.range_succ, List.filter_append, h]
theorem hasK_len (L : Ld) (wh loc : Int) (k : Nat) : (hasK L wh loc k).length ≤ k := by
  unfold hasK
  rw [List.length_map]
  exact Nat.le_trans (List.length_filter_le ..) (by simp)
theorem hasK_mem {L : Ld} {wh loc x : Int} {k : Nat} (h : x ∈ hasK L wh loc k) : ∃ i : Nat, x = (i : Int) ∧ i < k ∧ isAt L wh loc i = true := by
  unfold hasK at h
  rw [List.mem_map] at h
  obtain ⟨i, hi, rfl⟩ := h
  rw [List.mem_filter] at hi
  exact ⟨i, rfl, by simpa using hi.1, hi.2⟩
theorem hasK_of {L : Ld} {wh loc : Int} {i k : Nat} (hi : i < k) (h : isAt L wh loc i = true) : (i : Int) ∈ hasK L wh loc k := by
  unfold hasK
  rw [List.mem_map]
  exact ⟨i, List.mem_filter.2 ⟨by simpa using hi, h⟩, rfl⟩

/-- A round's head. -/
structure HRel (L : Ld) (w : World) (v : Value) (S : List Int) (wr : World) : Prop where
  own : wr.ownsRow (w.heap.size + 1) 3 1 v S.length (icells S)
  gd : GdRel L w wr
  size : w.heap.size + 1 ≤ wr.heap.size

theorem HRel.box {L : Ld} {w wr : World} {v : Value} {S : List Int} (h : HRel L w v S wr) (o : Obj) : HRel L w v S (wr.alloc o) :=
  ⟨h.own.alloc o, h.gd.box o, by have := h.size; simp; omega⟩

theorem HRel.next {L : Ld} {w wr wr' : World} {v v' : Value} {S : List Int} {i : Int} (h : HRel L w v S wr)
    (ho : wr'.ownsRow (w.heap.size + 1) 3 1 v' (S.length + 1) (icells S ++ [.int .i64 i])) (hg : wr.grownBy wr' v.ownBlock) : HRel L w v' (S ++ [i]) wr' := by
  have hb : Below (w.heap.size + 1) wr wr' := (Below.refl _ _ : Below (w.heap.size + 1) wr wr).grown hg (by have := h.size; omega) (fun k hk => (h.own.lt k (by simpa using hk)).1)
  refine ⟨?_, ⟨?_, h.gd.low.trans (hb.mono (by omega))⟩, by have := hb.size; have := h.size; omega⟩
  · have e1 : (S ++ [i]).length = S.length + 1 := by simp
    have e2 : icells (S ++ [i]) = icells S ++ [.int .i64 i] := by simp [icells]
    rw [e1, e2]; exact ho
  · have := h.gd.cod
    unfold Cod at this ⊢
    rw [hb.block _ (by omega)]; exact this

/-- A thing out of the array of all. -/
theorem wl_ithingT {ops : Array Oper} {rest : List Oper} {op : Oper} {a : Act} {w : World} {Q : Exit → Act → World → Prop} (x y : Operand) (ho : op.op = .index 29 x y) (hw : Region.wanted op (yielded ops a.tmps) = true) (k : Nat) (L : Ld) (hx : a.eval x = .agg L.thingsA) (hy : a.eval y = .int .i64 (k : Int)) (hk : k < 9)
    (h : wpList Tryz.prog ops Q rest (a.put op.dst (.agg #[.string (L.tname k), .int .i64 (L.kind k), .int .i64 (L.wh k), .int .i64 (L.loc k), .bool (L.on k)])) w) : wpList Tryz.prog ops Q (op :: rest) a w :=
  wl_ithing x y ho hw k L hx hy hk h

set_option maxRecDepth 100000 in
set_option maxHeartbeats 1000000 in
theorem has_own (L : Ld) (wh loc : Int) (w : World) :
    Calls Tryz.prog 68 #[.agg L.cells, .int .i64 wh, .int .i64 loc] w fun e w' => ∃ v, e = .returned v ∧ w'.ownsRow (w.heap.size + 1) 3 1 v (hasK L wh loc 9).length (icells (hasK L wh loc 9)) ∧ Below w.heap.size w w' := by
  obtain ⟨i0, hi0, hz0, hz1, hz2⟩ := info_parts Tryz.info3
  go_enter Tryz.func68, Tryz.ntmps68
  go_wp2_with (refine wl_things (.tmp 10) rfl rfl _ L rfl (cod_new w L) ?_)
  go_loopw [7, 12] (fun v c wr => ∃ k : Nat, k ≤ 9 ∧ c = .int .i64 k ∧ HRel L w v (hasK L wh loc k) wr) (fun _ c _ => 9 - (intOf c).toNat)
  case atStart => exact ⟨0, by omega, rfl, World.ownsRow_nil _ _ _ _, gd_start L w, by simp⟩
  case round =>
    obtain ⟨k, hle, rfl, R⟩ := hrel
    obtain ⟨av, cap, rfl⟩ := own_shapeN R.own
    have HR := hide R
    clear R
    by_cases hk : k < 9
    · cases h1 : decide (L.wh k = wh) with
      | false =>
        have e1 : (L.wh k == wh) = false := by simpa using h1
        have HN := hide (hasK_no (L := L) (wh := wh) (loc := loc) (k := k) (by simp [isAt, h1]))
        clear h1
        go_wp2_with (first | (refine wl_ithingT (.tmp 11) (.tmp 12) rfl rfl k L rfl rfl hk ?_) | (refine wl_new 28 (.tmp 9) (.tmp 15) rfl rfl _ _ rfl rfl rfl Tryz.sizeThing rfl rfl ?_))
        go_roundw
        case rel => exact ⟨k + 1, by omega, by go_num, by rw [HN.out]; exact HR.out.box _⟩
        case measure => simp [intOf]; omega
      | true =>
        have e1 : (L.wh k == wh) = true := by simpa using h1
        cases h2 : decide (L.loc k = loc) with
        | false =>
          have e2 : (L.loc k == loc) = false := by simpa using h2
          have HN := hide (hasK_no (L := L) (wh := wh) (loc := loc) (k := k) (by simp [isAt, h2]))
          clear h1 h2
          go_wp2_with (first | (refine wl_ithingT (.tmp 11) (.tmp 12) rfl rfl k L rfl rfl hk ?_) | (refine wl_new 28 (.tmp 9) (.tmp 15) rfl rfl _ _ rfl rfl rfl Tryz.sizeThing rfl rfl ?_))
          go_roundw
          case rel => exact ⟨k + 1, by omega, by go_num, by rw [HN.out]; exact HR.out.box _⟩
          case measure => simp [intOf]; omega
        | true =>
          have e2 : (L.loc k == loc) = true := by simpa using h2
          have HN := hide (hasK_yes (L := L) (wh := wh) (loc := loc) (k := k) (by simp [isAt, h1, h2]))
          have hlen := hasK_len L wh loc k
          have hsz := HR.out.size
          clear h1 h2
          generalize hasK L wh loc k = S at *
          go_wp2_with (first | (refine wl_ithingT (.tmp 11) (.tmp 12) rfl rfl k L rfl rfl hk ?_) | (refine wl_new 28 (.tmp 9) (.tmp 15) rfl rfl _ _ rfl rfl rfl Tryz.sizeThing rfl rfl ?_) | (at_builtin; refine wpList_append_own_at _ rfl (.tmp 26) (.tmp 28) 59 rfl (w.heap.size + 1) 3 i0 (.int .i64 0) 1 8 Tryz.underlying59 hi0 hz0 hz1 hz2 rfl (by decide) _ S.length (icells S) rfl ((HR.out.own.alloc _).alloc _) ⟨wr.heap.size + 1, 0, none⟩ 1 1 [.int .i64 (k : Int)] rfl ?a1 ?a2 ?a3 ?a4 ?a5 ?a6 ?_))
          case a1 => rfl
          case a2 =>
            intro j u hj
            match j, hj with
            | 0, hj => simp at hj; subst hj; simp [Addr.add]
          case a3 => intro u hu; simp at hu; subst hu; rfl
          case a4 => unfold maxLen; omega
          case a5 => omega
          case a6 => simp; omega
          intro v' w1 ho hg _ _
          have N := hide (((HR.out.box _).box _).next ho hg)
          obtain ⟨av', cap', rfl⟩ := own_shapeN ho
          clear ho hg
          go_wp2
          go_roundw
          case rel => exact ⟨k + 1, by omega, by go_num, by rw [HN.out]; exact N.out⟩
          case measure => simp [intOf]; omega
    · have hk9 : k = 9 := by omega
      subst hk9
      go_wp2
      go_ret
      exact ⟨_, rfl, HR.out.own, HR.out.gd.low⟩
theorem has_any (L : Ld) (wh loc : Int) (w : World) :
    Calls Tryz.prog 68 #[.agg L.cells, .int .i64 wh, .int .i64 loc] w fun e w' => ∃ v, e = .returned v ∧ Nums w' v (hasK L wh loc 9) ∧ Below w.heap.size w w' :=
  (has_own L wh loc w).mono fun e w' ⟨v, he, ho, hb⟩ => ⟨v, he, nums_own ho, hb⟩
end Go.Proofs.YtaifjndkgfffpaaGreatDoor
/-
  Bright and Hidden: contracts.
-/
namespace Go.Proofs.YtaifjndkgfffpaaGreatDoor
open Go.RowKit
set_option linter.unusedVariables false

theorem any_no {n : Nat} {f : Nat → Bool} (h : ∀ k, k < n → f k = false) : (List.range n).any f = false := by
  rw [Bool.eq_false_iff]
  intro hc
  obtain ⟨k, hk, hf⟩ := List.any_eq_true.1 hc
  rw [h k (by simpa using hk)] at hf; simp at hf
theorem any_yes {n k : Nat} {f : Nat → Bool} (hk : k < n) (h : f k = true) : (List.range n).any f = true :=
  List.any_eq_true.2 ⟨k, by simpa using hk, h⟩
theorem Cod.dark {w : World} {b : Nat} {L : Ld} (h : Cod w b L) (r : Nat) (hr : r < 6) : w.cell? ⟨b, r * 14 + 1, none⟩ = some (.bool (L.dark r)) := by
  rw [h.cell _ (by omega), L.at_room r 1 hr (by omega)]; rfl

set_option maxRecDepth 100000 in
set_option maxHeartbeats 1000000 in
theorem bright_any (L : Ld) (r : Int) (w : World) :
    Calls Tryz.prog 63 #[.agg L.cells, .int .i64 r] w fun e w' => e = .returned (.bool (brightL L r)) ∧ Below w.heap.size w w' := by
  by_cases h0 : 0 ≤ r
  · obtain ⟨x, rfl⟩ := Int.eq_ofNat_of_zero_le h0
    by_cases h6 : x < 6
    · cases hd : L.dark x with
      | false =>
        have HV := hide (show brightL L (x : Int) = true by simp [brightL, hd, amg]; omega)
        have c1 := (cod_new w L).dark x h6
        rw [hd] at c1
        clear hd
        go_enter Tryz.func63, Tryz.ntmps63
        go_wp2
        go_ret
        exact ⟨ret_bool HV.out.symm, (gd_start L w).low⟩
      | true =>
        have HV := hide (show brightL L (x : Int) = (List.range 9).any (shines L (x : Int)) by
          have : amg (x : Int) 6 = true := amg_mk (by omega) (by omega)
          simp [brightL, hd, this])
        have c1 := (cod_new w L).dark x h6
        rw [hd] at c1
        clear hd
        go_enter Tryz.func63, Tryz.ntmps63
        go_wp2_with (refine wl_things (.tmp 21) rfl rfl _ L rfl (cod_new w L) ?_)
        clear c1
        go_loopw [23] (fun c wr => ∃ k : Nat, k ≤ 9 ∧ c = .int .i64 k ∧ GdRel L w wr ∧ ∀ j, j < k → shines L (x : Int) j = false) (fun c _ => 9 - (intOf c).toNat)
        case atStart => exact ⟨0, by omega, rfl, gd_start L w, fun j h => by omega⟩
        case round =>
          obtain ⟨k, hle, rfl, R, hall⟩ := hrel
          have HR := hide R
          have HA := hide hall
          clear R hall
          have NX : Hid (shines L (x : Int) k = false → ∀ j, j < k + 1 → shines L (x : Int) j = false) := fun h j hj => by
            rcases Nat.lt_or_ge j k with h' | h'
            · exact HA.out j h'
            · rw [show j = k by omega]; exact h
          by_cases hk : k < 9
          · cases h1 : (L.kind k != 1) with
            | true =>
              have HN := hide (NX.out (by have : L.kind k ≠ 1 := by simpa using h1
                                          simp [shines, this]))
              go_wp2_with (first | (refine wl_ithingT (.tmp 22) (.tmp 23) rfl rfl k L rfl rfl hk ?_) | (refine wl_new 28 (.tmp 6) (.tmp 26) rfl rfl _ _ rfl rfl rfl Tryz.sizeThing rfl rfl ?_))
              go_roundw
              case rel => exact ⟨k + 1, by omega, by go_num, HR.out.box _, HN.out⟩
              case measure => simp [intOf]; omega
            | false =>
              have HK := hide (show L.kind k = 1 by simpa using h1)
              cases h2 : L.on k with
              | false =>
                have HN := hide (NX.out (by simp [shines, h2]))
                go_wp2_with (first | (refine wl_ithingT (.tmp 22) (.tmp 23) rfl rfl k L rfl rfl hk ?_) | (refine wl_new 28 (.tmp 6) (.tmp 26) rfl rfl _ _ rfl rfl rfl Tryz.sizeThing rfl rfl ?_))
                go_roundw
                case rel => exact ⟨k + 1, by omega, by go_num, HR.out.box _, HN.out⟩
                case measure => simp [intOf]; omega
              | true =>
                have HO := hide h2
                go_wp2_with (first | (refine wl_ithingT (.tmp 22) (.tmp 23) rfl rfl k L rfl rfl hk ?_) | (refine wl_new 28 (.tmp 6) (.tmp 26) rfl rfl _ _ rfl rfl rfl Tryz.sizeThing rfl rfl ?_) | (refine wl_land (.tmp 2) rfl rfl _ L rfl (HR.out.box _).cod ?_))
                clear h1 h2
                refine (room_any L (k : Int) _).mono ?_
                rintro e w1 ⟨rfl, hb⟩
                have R1 := hide ((HR.out.box _).call hb)
                clear hb
                have HS := hide (show shines L (x : Int) k = ((roomL L (k : Int)).2 && decide ((roomL L (k : Int)).1 = (x : Int))) by simp [shines, HK.out, HO.out])
                generalize roomL L (k : Int) = rr at *
                obtain ⟨rm, op⟩ := rr
                cases h3 : (rm == (x : Int)) with
                | false =>
                  have HN := hide (NX.out (by rw [HS.out]; have : ¬ rm = (x : Int) := by simpa using h3
                                              simp [this]))
                  go_wp2
                  go_roundw
                  case rel => exact ⟨k + 1, by omega, by go_num, R1.out, HN.out⟩
                  case measure => simp [intOf]; omega
                | true =>
                  cases op with
                  | false =>
                    have HN := hide (NX.out (by rw [HS.out]; rfl))
                    go_wp2
                    go_roundw
                    case rel => exact ⟨k + 1, by omega, by go_num, R1.out, HN.out⟩
                    case measure => simp [intOf]; omega
                  | true =>
                    have HN := hide (show brightL L (x : Int) = true by
                      rw [HV.out]; refine any_yes hk ?_
                      rw [HS.out]; have : rm = (x : Int) := by simpa using h3
                      simp [this])
                    go_wp2
                    go_ret
                    exact ⟨ret_bool HN.out.symm, R1.out.low⟩
          · have HN := hide (show brightL L (x : Int) = false by rw [HV.out]; exact any_no fun j hj => HA.out j (by omega))
            go_wp2
            go_ret
            exact ⟨ret_bool HN.out.symm, HR.out.low⟩
    · have HV := hide (show brightL L (x : Int) = false by
        have : amg (x : Int) 6 = false := amg_no (by omega)
        simp [brightL, this])
      go_enter Tryz.func63, Tryz.ntmps63
      go_wp2
      go_ret
      exact ⟨ret_bool HV.out.symm, (gd_start L w).low⟩
  · have HV := hide (show brightL L r = false by
      have : amg r 6 = false := amg_no (by omega)
      simp [brightL, this])
    go_enter Tryz.func63, Tryz.ntmps63
    go_wp2
    go_ret
    exact ⟨ret_bool HV.out.symm, (gd_start L w).low⟩

theorem has_hidden (L : Ld) (b : Int) : (∀ x ∈ hasK L 1 b 9, (decide (L.kind x.toNat = 2) && L.on x.toNat) = false) → hiddenL L b = false := by
  intro h
  refine any_no fun k hk => ?_
  unfold cloaks
  cases h1 : isAt L 1 b k with
  | false => unfold isAt at h1; rw [h1]; rfl
  | true =>
    have := h _ (hasK_of hk h1)
    simp only [Int.toNat_natCast] at this
    unfold isAt at h1
    rw [h1, Bool.true_and, this]

set_option maxRecDepth 100000 in
set_option maxHeartbeats 1000000 in
theorem hidden_any (L : Ld) (b : Int) (w : World) :
    Calls Tryz.prog 94 #[.agg L.cells, .int .i64 b] w fun e w' => e = .returned (.bool (hiddenL L b)) ∧ Below w.heap.size w w' := by
  have HH := hide (has_hidden L b)
  have HM : Hid (∀ x ∈ hasK L 1 b 9, ∃ i : Nat, x = (i : Int) ∧ i < 9 ∧ isAt L 1 b i = true) := fun x hx => hasK_mem hx
  have HL := hide (hasK_len L 1 b 9)
  go_enter Tryz.func94, Tryz.ntmps94
  go_wp2_with (refine wl_land (.tmp 2) rfl rfl _ L rfl (cod_new w L) ?_)
  refine (has_any L 1 b _).mono ?_
  rintro e w1 ⟨v, rfl, hn, hb⟩
  have G1 := hide ((gd_start L w).call hb)
  clear hb
  generalize hasK L 1 b 9 = q at *
  obtain ⟨av, cap, rfl, hl, hm, hc⟩ := hn
  have HC := hide hc
  clear hc
  generalize hqn : q.length = n at *
  have HQ := hide hqn
  clear hqn
  unfold maxLen at hm
  have h9 := HL.out
  go_wp2
  go_loopw [12] (fun c wr => ∃ k : Nat, k ≤ n ∧ c = .int .i64 k ∧ GdRel L w wr ∧ Below w1.heap.size w1 wr ∧ ∀ x ∈ q.take k, (decide (L.kind x.toNat = 2) && L.on x.toNat) = false) (fun c _ => n - (intOf c).toNat)
  case atStart => exact ⟨0, by omega, rfl, G1.out, Below.refl _ _, fun x h => by simp at h⟩
  case round =>
    obtain ⟨k, hle, rfl, R, hb, hall⟩ := hrel
    by_cases hk : k < n
    · obtain ⟨bb, off, rfl, hcell⟩ := HC.out (by omega)
      have hkq : k < q.length := by rw [HQ.out]; exact hk
      have hmem := getD_mem hkq
      obtain ⟨i, hi, hi9, hat⟩ := HM.out _ hmem
      have c0 := hcell k hk
      rw [hi] at c0
      have c1 : wr.cell? ⟨bb, off + k, none⟩ = some (.int .i64 (i : Int)) := by
        rw [hb.cell (p := ⟨bb, off + k, none⟩) (cell_lt c0)]; exact c0
      have NX : Hid ((decide (L.kind i = 2) && L.on i) = false → ∀ x ∈ q.take (k + 1), (decide (L.kind x.toNat = 2) && L.on x.toNat) = false) := fun h x hx => by
        by_cases hx' : x ∈ q.take k
        · exact hall x hx'
        · have := mem_take_succ hkq hx hx'
          rw [hi] at this
          rw [← this]; simpa using h
      have HY : Hid ((decide (L.kind i = 2) && L.on i) = true → hiddenL L b = true) := fun h => any_yes (f := cloaks L b) hi9 (by
        unfold isAt at hat
        unfold cloaks
        rw [hat, Bool.true_and]; exact h)
      have HR := hide R
      have HB := hide hb
      clear R hb hall hcell hmem hi hat c0 HC
      cases h1 : (L.kind i == 2) with
      | false =>
        have HN := hide (NX.out (by have : ¬ L.kind i = 2 := by simpa using h1
                                    simp [this]))
        go_wp2_with (first | (refine wl_thing (.tmp 18) rfl rfl _ i L rfl HR.out.cod hi9 ?_) | (refine wl_new 28 (.tmp 7) (.tmp 19) rfl rfl _ _ rfl rfl rfl Tryz.sizeThing rfl rfl ?_))
        go_roundw
        case rel => exact ⟨k + 1, by omega, by go_num, HR.out.box _, HB.out.alloc HB.out.size _, HN.out⟩
        case measure => simp [intOf]; omega
      | true =>
        have HK := hide (show L.kind i = 2 by simpa using h1)
        cases h2 : L.on i with
        | false =>
          have HN := hide (NX.out (by simp [h2]))
          go_wp2_with (first | (refine wl_thing (.tmp 18) rfl rfl _ i L rfl HR.out.cod hi9 ?_) | (refine wl_new 28 (.tmp 7) (.tmp 19) rfl rfl _ _ rfl rfl rfl Tryz.sizeThing rfl rfl ?_))
          go_roundw
          case rel => exact ⟨k + 1, by omega, by go_num, HR.out.box _, HB.out.alloc HB.out.size _, HN.out⟩
          case measure => simp [intOf]; omega
        | true =>
          have HN := hide (HY.out (by simp [h2, HK.out]))
          go_wp2_with (first | (refine wl_thing (.tmp 18) rfl rfl _ i L rfl HR.out.cod hi9 ?_) | (refine wl_new 28 (.tmp 7) (.tmp 19) rfl rfl _ _ rfl rfl rfl Tryz.sizeThing rfl rfl ?_))
          go_ret
          exact ⟨ret_bool HN.out.symm, (HR.out.box _).low⟩
    · have HN := hide (HH.out (by rw [List.take_of_length_le (by rw [HQ.out]; omega)] at hall; exact hall))
      have HR := hide R
      clear R hb hall
      go_wp2
      go_ret
      exact ⟨ret_bool HN.out.symm, HR.out.low⟩
end Go.Proofs.YtaifjndkgfffpaaGreatDoor
/-
  Sees: its contract.
-/
namespace Go.Proofs.YtaifjndkgfffpaaGreatDoor
open Go.RowKit
set_option linter.unusedVariables false

theorem GdRel.drew {L : Ld} {w wr : World} (h : GdRel L w wr) : GdRel L w wr.drew := ⟨h.cod, ⟨h.low.os, h.low.tape, h.low.output, h.low.size, h.low.block⟩⟩

theorem sees_not {L : Ld} {a b : Int} (h : abtL L a = false ∨ abtL L b = false) : seesL L a b = false := by
  unfold seesL
  rcases h with h | h
  · rw [h]; rfl
  · rw [h, Bool.and_false]; rfl
theorem sees_if {L : Ld} {a b : Int} (ha : abtL L a = true) (hb : abtL L b = true) (hne : a ≠ b) :
    seesL L a b = (decide (L.room a.toNat = L.room b.toNat) && brightL L (L.room b.toNat) && (!hiddenL L b || L.keen a.toNat)) := by
  unfold seesL
  rw [ha, hb, decide_eq_false hne]; rfl

set_option maxRecDepth 100000 in
set_option maxHeartbeats 1000000 in
theorem sees_any (L : Ld) (a b : Int) (w : World) :
    Calls Tryz.prog 86 #[.agg L.cells, .int .i64 a, .int .i64 b] w fun e w' => e = .returned (.bool (seesL L a b)) ∧ Below w.heap.size w w' := by
  cases ha : abtL L a with
  | false =>
    have HV := hide (sees_not (b := b) (.inl ha))
    have HA := hide ha
    clear ha
    go_enter Tryz.func86, Tryz.ntmps86
    go_wp2_with (refine wl_land (.tmp 3) rfl rfl _ L rfl (cod_new w L) ?_)
    refine (shere_any L a _).mono ?_
    rintro e w1 ⟨rfl, hb⟩
    have G1 := hide ((gd_start L w).call hb)
    rw [HA.out]
    clear hb
    go_wp2
    go_ret
    exact ⟨ret_bool HV.out.symm, G1.out.low⟩
  | true =>
    cases hB : abtL L b with
    | false =>
      have HV := hide (sees_not (a := a) (.inr hB))
      have HA := hide ha
      have HB := hide hB
      clear ha hB
      go_enter Tryz.func86, Tryz.ntmps86
      go_wp2_with (refine wl_land (.tmp 3) rfl rfl _ L rfl (cod_new w L) ?_)
      refine (shere_any L a _).mono ?_
      rintro e w1 ⟨rfl, hb⟩
      have G1 := hide ((gd_start L w).call hb)
      rw [HA.out]
      clear hb
      go_wp2_with (refine wl_land (.tmp 3) rfl rfl _ L rfl G1.out.cod ?_)
      refine (shere_any L b _).mono ?_
      rintro e w2 ⟨rfl, hb⟩
      have G2 := hide (G1.out.call hb)
      rw [HB.out]
      clear hb
      go_wp2
      go_ret
      exact ⟨ret_bool HV.out.symm, G2.out.low⟩
    | true =>
      by_cases hab : a = b
      · subst hab
        have HV := hide (show seesL L a a = true by rw [sees_self, ha])
        have HA := hide ha
        clear ha hB
        go_enter Tryz.func86, Tryz.ntmps86
        go_wp2_with (refine wl_land (.tmp 3) rfl rfl _ L rfl (cod_new w L) ?_)
        refine (shere_any L a _).mono ?_
        rintro e w1 ⟨rfl, hb⟩
        have G1 := hide ((gd_start L w).call hb)
        rw [HA.out]
        clear hb
        go_wp2_with (refine wl_land (.tmp 3) rfl rfl _ L rfl G1.out.cod ?_)
        refine (shere_any L a _).mono ?_
        rintro e w2 ⟨rfl, hb⟩
        have G2 := hide (G1.out.call hb)
        rw [HA.out]
        clear hb
        go_wp2
        go_ret
        exact ⟨ret_bool HV.out.symm, G2.out.low⟩
      · have HV := hide (sees_if ha hB hab)
        have hne : (a == b) = false := by simp [hab]
        have HA := hide ha
        have HB := hide hB
        have pa : amg a 6 = true := by simp only [abtL, Bool.and_eq_true] at ha; exact ha.1
        have pb : amg b 6 = true := by simp only [abtL, Bool.and_eq_true] at hB; exact hB.1
        obtain ⟨a0, a6⟩ := amg_pos pa
        obtain ⟨b0, b6⟩ := amg_pos pb
        obtain ⟨x, rfl⟩ := Int.eq_ofNat_of_zero_le a0
        obtain ⟨y, rfl⟩ := Int.eq_ofNat_of_zero_le b0
        clear ha hB hab pa pb
        go_enter Tryz.func86, Tryz.ntmps86
        go_wp2_with (refine wl_land (.tmp 3) rfl rfl _ L rfl (cod_new w L) ?_)
        refine (shere_any L (x : Int) _).mono ?_
        rintro e w1 ⟨rfl, hb⟩
        have G1 := hide ((gd_start L w).call hb)
        rw [HA.out]
        clear hb
        go_wp2_with (refine wl_land (.tmp 3) rfl rfl _ L rfl G1.out.cod ?_)
        refine (shere_any L (y : Int) _).mono ?_
        rintro e w2 ⟨rfl, hb⟩
        have G2 := hide (G1.out.call hb)
        rw [HB.out]
        clear hb
        have cx0 : w2.cell? ⟨w.heap.size, 129 + x * 6, none⟩ = some (.string (L.bname x)) := G2.out.cod.being x 0 (by omega) (by omega)
        have cx1 : w2.cell? ⟨w.heap.size, 129 + x * 6 + 1, none⟩ = some (.bool (L.here x)) := G2.out.cod.being x 1 (by omega) (by omega)
        have cx2 : w2.cell? ⟨w.heap.size, 129 + x * 6 + 2, none⟩ = some (.bool (L.keen x)) := G2.out.cod.being x 2 (by omega) (by omega)
        have cx3 : w2.cell? ⟨w.heap.size, 129 + x * 6 + 3, none⟩ = some (.int .i64 (L.room x)) := G2.out.cod.being x 3 (by omega) (by omega)
        have cx4 : w2.cell? ⟨w.heap.size, 129 + x * 6 + 4, none⟩ = some (.int .i64 (L.health x)) := G2.out.cod.being x 4 (by omega) (by omega)
        have cx5 : w2.cell? ⟨w.heap.size, 129 + x * 6 + 5, none⟩ = some (.int .i64 (L.foe x)) := G2.out.cod.being x 5 (by omega) (by omega)
        have cy0 : w2.cell? ⟨w.heap.size, 129 + y * 6, none⟩ = some (.string (L.bname y)) := G2.out.cod.being y 0 (by omega) (by omega)
        have cy1 : w2.cell? ⟨w.heap.size, 129 + y * 6 + 1, none⟩ = some (.bool (L.here y)) := G2.out.cod.being y 1 (by omega) (by omega)
        have cy2 : w2.cell? ⟨w.heap.size, 129 + y * 6 + 2, none⟩ = some (.bool (L.keen y)) := G2.out.cod.being y 2 (by omega) (by omega)
        have cy3 : w2.cell? ⟨w.heap.size, 129 + y * 6 + 3, none⟩ = some (.int .i64 (L.room y)) := G2.out.cod.being y 3 (by omega) (by omega)
        have cy4 : w2.cell? ⟨w.heap.size, 129 + y * 6 + 4, none⟩ = some (.int .i64 (L.health y)) := G2.out.cod.being y 4 (by omega) (by omega)
        have cy5 : w2.cell? ⟨w.heap.size, 129 + y * 6 + 5, none⟩ = some (.int .i64 (L.foe y)) := G2.out.cod.being y 5 (by omega) (by omega)
        have hlt : w.heap.size < w2.heap.size := G2.out.cod.lt
        go_wp2
        go_cut [7, 8] (fun p q wc => ∃ i j : Nat, p = .pointer (some ⟨i, 0, none⟩) ∧ q = .pointer (some ⟨j, 0, none⟩) ∧ GdRel L w wc ∧ wc.cell? ⟨i, 2, none⟩ = some (.bool (L.keen x)) ∧ wc.cell? ⟨i, 3, none⟩ = some (.int .i64 (L.room x)) ∧ wc.cell? ⟨j, 3, none⟩ = some (.int .i64 (L.room y)))
        case first =>
          go_region
          · go_wp2
            go_meet
            exact ⟨_, _, rfl, rfl, ((G2.out.box _).box _).drew, by go_simp, by go_simp, by go_simp⟩
          · go_wp2
            go_meet
            exact ⟨_, _, rfl, rfl, ((G2.out.box _).box _).drew, by go_simp, by go_simp, by go_simp⟩
        case rest =>
          obtain ⟨i, j, rfl, rfl, g, k2, k3, k4⟩ := hcut
          clear cx0 cx1 cx2 cx3 cx4 cx5 cy0 cy1 cy2 cy3 cy4 cy5 hlt
          have G3 := hide g
          clear g G1 G2 HA HB
          by_cases hr : L.room x = L.room y
          · have e1 : (L.room x == L.room y) = true := by simp [hr]
            have HE := hide hr
            clear hr
            go_wp2_with (refine wl_land (.tmp 3) rfl rfl _ L rfl G3.out.cod ?_)
            refine (bright_any L (L.room x) _).mono ?_
            rintro e w3 ⟨rfl, hb⟩
            have c2 : w3.cell? ⟨i, 2, none⟩ = some (.bool (L.keen x)) := by rw [hb.cell (cell_lt k2)]; exact k2
            have G4 := hide (G3.out.call hb)
            clear hb k2 k3 k4
            have HV2 := hide (show seesL L (x : Int) (y : Int) = (brightL L (L.room x) && (!hiddenL L (y : Int) || L.keen x)) by rw [HV.out, Int.toNat_natCast, Int.toNat_natCast, ← HE.out]; simp)
            cases hbr : brightL L (L.room x) with
            | false =>
              have HN := hide (show seesL L (x : Int) (y : Int) = false by rw [HV2.out, hbr]; simp)
              go_wp2
              go_ret
              exact ⟨ret_bool HN.out.symm, G4.out.low⟩
            | true =>
              cases hkn : L.keen x with
              | true =>
                have HN := hide (show seesL L (x : Int) (y : Int) = true by rw [HV2.out, hbr, hkn]; simp)
                go_wp2
                go_ret
                exact ⟨ret_bool HN.out.symm, G4.out.low⟩
              | false =>
                have HN := hide (show seesL L (x : Int) (y : Int) = !hiddenL L (y : Int) by rw [HV2.out, hbr, hkn]; simp)
                go_wp2_with (refine wl_land (.tmp 3) rfl rfl _ L rfl G4.out.cod ?_)
                refine (hidden_any L (y : Int) _).mono ?_
                rintro e w4 ⟨rfl, hb⟩
                have G5 := hide (G4.out.call hb)
                clear hb c2
                go_wp2
                go_ret
                exact ⟨ret_bool HN.out.symm, G5.out.low⟩
          · have e1 : (L.room x == L.room y) = false := by simp [hr]
            have HN := hide (show seesL L (x : Int) (y : Int) = false by rw [HV.out, Int.toNat_natCast, Int.toNat_natCast, decide_eq_false hr]; simp)
            clear hr
            go_wp2
            go_ret
            exact ⟨ret_bool HN.out.symm, G3.out.low⟩
end Go.Proofs.YtaifjndkgfffpaaGreatDoor
/-
  Bits of numbers: plain mathematics.
-/
namespace Go.Proofs.YtaifjndkgfffpaaGreatDoor
set_option linter.unusedVariables false

theorem or12 : bits .or .i64 1 2 = 3 := by decide
theorem or14 : bits .or .i64 1 4 = 5 := by decide
theorem or34 : bits .or .i64 3 4 = 7 := by decide
end Go.Proofs.YtaifjndkgfffpaaGreatDoor
/-
  Perceives: its contract.
-/
namespace Go.Proofs.YtaifjndkgfffpaaGreatDoor
open Go.RowKit
set_option linter.unusedVariables false

/-- The land and the event lie in their blocks, nothing older was touched. -/
structure PvRel (L : Ld) (E : Ev) (w wr : World) : Prop where
  cod : Cod wr w.heap.size L
  cev : Cev wr (w.heap.size + 1) E
  low : Below w.heap.size w wr
theorem PvRel.call {L : Ld} {E : Ev} {w wr w1 : World} (h : PvRel L E w wr) (hb : Below wr.heap.size wr w1) : PvRel L E w w1 := ⟨h.cod.behind hb (Nat.le_refl _), h.cev.behind hb (Nat.le_refl _), h.low.trans (hb.mono h.low.size)⟩
theorem PvRel.drew {L : Ld} {E : Ev} {w wr : World} (h : PvRel L E w wr) : PvRel L E w wr.drew := ⟨h.cod, h.cev, ⟨h.low.os, h.low.tape, h.low.output, h.low.size, h.low.block⟩⟩
theorem PvRel.box {L : Ld} {E : Ev} {w wr : World} (h : PvRel L E w wr) (o : Obj) : PvRel L E w (wr.alloc o) := ⟨h.cod.alloc o, h.cev.alloc o, h.low.alloc h.low.size o⟩
theorem pv_start (L : Ld) (E : Ev) (w : World) : PvRel L E w ((w.alloc (.cells L.cells 34)).alloc (.cells E.cells 62)) := by
  refine ⟨(cod_new w L).alloc _, ?_, ((Below.refl _ _).alloc (Nat.le_refl _) _).alloc (by simp) _⟩
  have := cev_new (w.alloc (.cells L.cells 34)) E
  rw [World.size_alloc] at this; exact this

section
variable {L : Ld} {b kind room actor other : Int}
theorem perc_gone (h : abtL L b = false) : percL L b kind room actor other = 0 := by unfold percL; rw [if_pos h]
theorem perc_told (h1 : abtL L b = true) (hn : b ≠ actor) (h : kind = 16 ∨ L.room b.toNat ≠ room) : percL L b kind room actor other = 0 := by
  unfold percL; rw [if_neg (by simp [h1]), if_pos ⟨hn, h⟩]
theorem perc_quiet (h1 : abtL L b = true) (hn : b ≠ actor) (h2 : ¬ (kind = 16 ∨ L.room b.toNat ≠ room)) (hs : seesL L b actor = false) (hl : loud kind = false) : percL L b kind room actor other = 0 := by
  unfold percL; rw [if_neg (by simp [h1]), if_neg (fun h => h2 h.2), if_pos ⟨hn, hs, hl⟩]
theorem perc_own (h1 : abtL L b = true) (hn : b = actor) : percL L b kind room actor other = 1 + (if amg other 6 = true ∧ seesL L b other = false then 4 else 0) := by
  unfold percL; rw [if_neg (by simp [h1]), if_neg (fun h => h.1 hn), if_neg (fun h => h.1 hn), if_neg (fun h => h.1 hn)]
theorem perc_seen (h1 : abtL L b = true) (hn : b ≠ actor) (h2 : ¬ (kind = 16 ∨ L.room b.toNat ≠ room)) (hs : seesL L b actor = true) : percL L b kind room actor other = 1 + (if amg other 6 = true ∧ seesL L b other = false then 4 else 0) := by
  unfold percL; rw [if_neg (by simp [h1]), if_neg (fun h => h2 h.2), if_neg (fun h => by rw [hs] at h; simp at h), if_neg (fun h => by rw [hs] at h; simp at h)]
theorem perc_heard (h1 : abtL L b = true) (hn : b ≠ actor) (h2 : ¬ (kind = 16 ∨ L.room b.toNat ≠ room)) (hs : seesL L b actor = false) (hl : loud kind = true) : percL L b kind room actor other = 3 + (if amg other 6 = true ∧ seesL L b other = false then 4 else 0) := by
  unfold percL; rw [if_neg (by simp [h1]), if_neg (fun h => h2 h.2), if_neg (fun h => by rw [hl] at h; simp at h), if_pos ⟨hn, hs⟩]
end

set_option maxRecDepth 100000 in
set_option maxHeartbeats 1000000 in
theorem perc_any (L : Ld) (b : Int) (E : Ev) (w : World) :
    Calls Tryz.prog 90 #[.agg L.cells, .int .i64 b, .agg E.cells] w fun e w' => e = .returned (.int .i64 (percL L b E.kind E.room E.actor E.other)) ∧ Below w.heap.size w w' := by
  have P0 := hide (pv_start L E w)
  cases ha : abtL L b with
  | false =>
    have HV := hide (perc_gone (kind := E.kind) (room := E.room) (actor := E.actor) (other := E.other) ha)
    go_enter Tryz.func90, Tryz.ntmps90
    go_wp2_with (refine wl_land (.tmp 3) rfl rfl _ L rfl P0.out.cod ?_)
    refine (shere_any L b _).mono ?_
    rintro e w1 ⟨rfl, hb⟩
    have G1 := hide (P0.out.call hb)
    rw [ha]
    clear hb ha
    go_wp2
    go_ret
    exact ⟨ret_int HV.out.symm, G1.out.low⟩
  | true =>
    have pa : amg b 6 = true := by simp only [abtL, Bool.and_eq_true] at ha; exact ha.1
    obtain ⟨a0, a6⟩ := amg_pos pa
    obtain ⟨b, rfl⟩ := Int.eq_ofNat_of_zero_le a0
    have HA := hide ha
    clear ha pa
    by_cases hn : (b : Int) = E.actor
    · have HT := hide (perc_own (kind := E.kind) (room := E.room) (other := E.other) HA.out hn)
      have e1 : ((b : Int) != E.actor) = false := by simp [hn]
      clear hn
      go_enter Tryz.func90, Tryz.ntmps90
      go_wp2_with (refine wl_land (.tmp 3) rfl rfl _ L rfl P0.out.cod ?_)
      refine (shere_any L (b : Int) _).mono ?_
      rintro e w1 ⟨rfl, hb⟩
      have G1 := hide (P0.out.call hb)
      rw [HA.out]
      have k2 := G1.out.cev.actor
      clear hb
      have k3 := G1.out.cev.othr
      cases ho : amg E.other 6 with
      | false =>
        have HN := hide (show percL L (b : Int) E.kind E.room E.actor E.other = 1 by rw [HT.out]; simp [ho])
        go_wp2_with fail
        refine (sbeing_any E.other _).mono ?_
        rintro e w9 ⟨rfl, hw⟩
        rw [hw, ho]
        clear hw w9 ho
        go_wp2
        go_ret
        exact ⟨ret_int HN.out.symm, G1.out.low⟩
      | true =>
        go_wp2_with fail
        refine (sbeing_any E.other _).mono ?_
        rintro e w9 ⟨rfl, hw⟩
        rw [hw, ho]
        clear hw w9
        have HO := hide ho
        clear ho
        go_wp2_with (refine wl_land (.tmp 3) rfl rfl _ L rfl G1.out.cod ?_)
        refine (sees_any L (b : Int) E.other _).mono ?_
        rintro e w8 ⟨rfl, hb⟩
        have G8 := hide (G1.out.call hb)
        clear hb k3
        cases hs : seesL L (b : Int) E.other with
        | true =>
          have HN := hide (show percL L (b : Int) E.kind E.room E.actor E.other = 1 by rw [HT.out]; simp [hs])
          go_wp2
          go_ret
          exact ⟨ret_int HN.out.symm, G8.out.low⟩
        | false =>
          have HN := hide (show percL L (b : Int) E.kind E.room E.actor E.other = 5 by rw [HT.out]; simp [hs, HO.out])
          have hor := or14
          go_wp2
          go_ret
          exact ⟨ret_int HN.out.symm, G8.out.low⟩
    · have e1 : ((b : Int) != E.actor) = true := by simp [hn]
      have HNE := hide hn
      clear hn
      by_cases h16 : E.kind = 16
      · have HN := hide (perc_told (other := E.other) (room := E.room) HA.out HNE.out (.inl h16))
        have e16 : (E.kind == 16) = true := by simp [h16]
        clear h16
        go_enter Tryz.func90, Tryz.ntmps90
        go_wp2_with (refine wl_land (.tmp 3) rfl rfl _ L rfl P0.out.cod ?_)
        refine (shere_any L (b : Int) _).mono ?_
        rintro e w1 ⟨rfl, hb⟩
        have G1 := hide (P0.out.call hb)
        rw [HA.out]
        have k0 := G1.out.cev.kind
        have k2 := G1.out.cev.actor
        clear hb
        go_wp2_with fail
        go_region
        all_goals go_wp2
        all_goals go_ret
        all_goals exact ⟨ret_int HN.out.symm, G1.out.drew.low⟩
      · have e16 : (E.kind == 16) = false := by simp [h16]
        have H16 := hide h16
        clear h16
        by_cases hr : E.room = L.room b
        · have er : (E.room != L.room b) = false := by simp [hr]
          have H2 := hide (show ¬ (E.kind = 16 ∨ L.room (b : Int).toNat ≠ E.room) by
            rw [Int.toNat_natCast]; intro h; rcases h with h | h
            · exact H16.out h
            · exact h hr.symm)
          clear hr
          go_enter Tryz.func90, Tryz.ntmps90
          go_wp2_with (refine wl_land (.tmp 3) rfl rfl _ L rfl P0.out.cod ?_)
          refine (shere_any L (b : Int) _).mono ?_
          rintro e w1 ⟨rfl, hb⟩
          have G1 := hide (P0.out.call hb)
          rw [HA.out]
          have k0 := G1.out.cev.kind
          have k1 := G1.out.cev.room
          have k2 := G1.out.cev.actor
          have kr : w1.cell? ⟨w.heap.size, 129 + b * 6 + 3, none⟩ = some (.int .i64 (L.room b)) := G1.out.cod.being b 3 (by omega) (by omega)
          clear hb
          go_wp2_with fail
          go_region
          all_goals
            go_wp2_with (refine wl_land (.tmp 3) rfl rfl _ L rfl G1.out.drew.cod ?_)
            refine (sees_any L (b : Int) E.actor _).mono ?_
            rintro e w3 ⟨rfl, hb⟩
            have G3 := hide (G1.out.drew.call hb)
            clear hb k0 k1 k2 kr
            have k0 := G3.out.cev.kind
            cases hs : seesL L (b : Int) E.actor with
            | true =>
              have HT := hide (perc_seen (other := E.other) HA.out HNE.out H2.out hs)
              clear hs
              have k3 := G3.out.cev.othr
              cases ho : amg E.other 6 with
              | false =>
                have HN := hide (show percL L (b : Int) E.kind E.room E.actor E.other = 1 by rw [HT.out]; simp [ho])
                go_wp2_with fail
                refine (sbeing_any E.other _).mono ?_
                rintro e w9 ⟨rfl, hw⟩
                rw [hw, ho]
                clear hw w9 ho
                go_wp2
                go_ret
                exact ⟨ret_int HN.out.symm, G3.out.low⟩
              | true =>
                go_wp2_with fail
                refine (sbeing_any E.other _).mono ?_
                rintro e w9 ⟨rfl, hw⟩
                rw [hw, ho]
                clear hw w9
                have HO := hide ho
                clear ho
                go_wp2_with (refine wl_land (.tmp 3) rfl rfl _ L rfl G3.out.cod ?_)
                refine (sees_any L (b : Int) E.other _).mono ?_
                rintro e w8 ⟨rfl, hb⟩
                have G8 := hide (G3.out.call hb)
                clear hb k3
                cases hs : seesL L (b : Int) E.other with
                | true =>
                  have HN := hide (show percL L (b : Int) E.kind E.room E.actor E.other = 1 by rw [HT.out]; simp [hs])
                  go_wp2
                  go_ret
                  exact ⟨ret_int HN.out.symm, G8.out.low⟩
                | false =>
                  have HN := hide (show percL L (b : Int) E.kind E.room E.actor E.other = 5 by rw [HT.out]; simp [hs, HO.out])
                  have hor := or14
                  go_wp2
                  go_ret
                  exact ⟨ret_int HN.out.symm, G8.out.low⟩
            | false =>
              have HS := hide hs
              clear hs
              go_wp2_with fail
              refine (unseen_any E.kind _).mono ?_
              rintro e w4 ⟨rfl, hw⟩
              rw [hw]
              clear hw w4
              cases hl : loud E.kind with
              | false =>
                have HN := hide (perc_quiet (other := E.other) HA.out HNE.out H2.out HS.out hl)
                go_wp2
                go_ret
                exact ⟨ret_int HN.out.symm, G3.out.low⟩
              | true =>
                have HT := hide (perc_heard (other := E.other) HA.out HNE.out H2.out HS.out hl)
                have hor2 := or12
                clear hl
                have k3 := G3.out.cev.othr
                cases ho : amg E.other 6 with
                | false =>
                  have HN := hide (show percL L (b : Int) E.kind E.room E.actor E.other = 3 by rw [HT.out]; simp [ho])
                  go_wp2_with fail
                  refine (sbeing_any E.other _).mono ?_
                  rintro e w9 ⟨rfl, hw⟩
                  rw [hw, ho]
                  clear hw w9 ho
                  go_wp2
                  go_ret
                  exact ⟨ret_int HN.out.symm, G3.out.low⟩
                | true =>
                  go_wp2_with fail
                  refine (sbeing_any E.other _).mono ?_
                  rintro e w9 ⟨rfl, hw⟩
                  rw [hw, ho]
                  clear hw w9
                  have HO := hide ho
                  clear ho
                  go_wp2_with (refine wl_land (.tmp 3) rfl rfl _ L rfl G3.out.cod ?_)
                  refine (sees_any L (b : Int) E.other _).mono ?_
                  rintro e w8 ⟨rfl, hb⟩
                  have G8 := hide (G3.out.call hb)
                  clear hb k3
                  cases hs : seesL L (b : Int) E.other with
                  | true =>
                    have HN := hide (show percL L (b : Int) E.kind E.room E.actor E.other = 3 by rw [HT.out]; simp [hs])
                    go_wp2
                    go_ret
                    exact ⟨ret_int HN.out.symm, G8.out.low⟩
                  | false =>
                    have HN := hide (show percL L (b : Int) E.kind E.room E.actor E.other = 7 by rw [HT.out]; simp [hs, HO.out])
                    have hor := or34
                    go_wp2
                    go_ret
                    exact ⟨ret_int HN.out.symm, G8.out.low⟩
        · have er : (E.room != L.room b) = true := by simp [hr]
          have HN := hide (perc_told (other := E.other) (kind := E.kind) (room := E.room) HA.out HNE.out (.inr (by rw [Int.toNat_natCast]; exact fun h => hr h.symm)))
          clear hr
          go_enter Tryz.func90, Tryz.ntmps90
          go_wp2_with (refine wl_land (.tmp 3) rfl rfl _ L rfl P0.out.cod ?_)
          refine (shere_any L (b : Int) _).mono ?_
          rintro e w1 ⟨rfl, hb⟩
          have G1 := hide (P0.out.call hb)
          rw [HA.out]
          have k0 := G1.out.cev.kind
          have k1 := G1.out.cev.room
          have k2 := G1.out.cev.actor
          have kr : w1.cell? ⟨w.heap.size, 129 + b * 6 + 3, none⟩ = some (.int .i64 (L.room b)) := G1.out.cod.being b 3 (by omega) (by omega)
          clear hb
          go_wp2_with fail
          go_region
          all_goals go_wp2
          all_goals go_ret
          all_goals exact ⟨ret_int HN.out.symm, G1.out.drew.low⟩
end Go.Proofs.YtaifjndkgfffpaaGreatDoor
/-
  All: its contract.
-/
namespace Go.Proofs.YtaifjndkgfffpaaGreatDoor
open Go.RowKit
set_option linter.unusedVariables false

/-- An event, as it is perceived by all; by the first k of them. -/
def allE (L : Ld) (E : Ev) : Ev := { E with by' := fun j => percL L (j : Int) E.kind E.room E.actor E.other }
def allK (L : Ld) (E : Ev) (k : Nat) : Ev := { E with by' := fun j => if j < k then percL L (j : Int) E.kind E.room E.actor E.other else E.by' j }
theorem allK_zero (L : Ld) (E : Ev) : (allK L E 0).cells = E.cells := Ev.ext_by _ (fun j _ => by simp [allK]) rfl rfl rfl rfl rfl rfl rfl rfl rfl rfl
theorem allK_all (L : Ld) (E : Ev) : (allK L E 6).cells = (allE L E).cells := Ev.ext_by _ (fun j hj => by simp [allK, allE, hj]) rfl rfl rfl rfl rfl rfl rfl rfl rfl rfl
theorem allK_next (L : Ld) (E : Ev) (k : Nat) : ((allK L E k).setBy k (percL L (k : Int) E.kind E.room E.actor E.other)).cells = (allK L E (k + 1)).cells :=
  Ev.ext_by _ (fun j hj => by
    simp only [allK, Ev.setBy]
    by_cases e : j = k
    · subst e; simp
    · rw [if_neg e]
      by_cases h : j < k
      · rw [if_pos h, if_pos (by omega)]
      · rw [if_neg h, if_neg (by omega)]) rfl rfl rfl rfl rfl rfl rfl rfl rfl rfl

theorem Cev.frozen {w : World} {b : Nat} {E : Ev} (h : Cev w b E) (o : Nat) : w.frozen? ⟨b, o, none⟩ = false := by
  unfold Cev at h
  simp only [World.frozen?, h]
  simp
theorem Cev.same {w : World} {b : Nat} {E F : Ev} (h : Cev w b E) (e : E.cells = F.cells) : Cev w b F := by
  unfold Cev at h ⊢; rw [← e]; exact h

/-- A round's head. -/
structure AvRel (L : Ld) (E : Ev) (k : Nat) (w wr : World) : Prop where
  pv : PvRel L (allK L E k) w wr
  res : ∃ z : Array Value, z.size = 16 ∧ wr.heap[w.heap.size + 2]? = some (.cells z 62 (0, 0))
theorem AvRel.call {L : Ld} {E : Ev} {k : Nat} {w wr w1 : World} (h : AvRel L E k w wr) (hb : Below wr.heap.size wr w1) : AvRel L E k w w1 := by
  refine ⟨h.pv.call hb, ?_⟩
  obtain ⟨z, hz, hr⟩ := h.res
  exact ⟨z, hz, by rw [hb.block _ (Array.getElem?_eq_some_iff.1 hr).1]; exact hr⟩
theorem AvRel.put {L : Ld} {E : Ev} {k : Nat} {w wr : World} (h : AvRel L E k w wr) (hk : k < 6) :
    AvRel L E (k + 1) w (wr.setCell ⟨w.heap.size + 1, 10 + k, none⟩ (.int .i64 (percL L (k : Int) E.kind E.room E.actor E.other))) := by
  refine ⟨⟨h.pv.cod.set (by omega) _ _, (h.pv.cev.put k hk _).same (allK_next L E k), h.pv.low.setCell (by simp) _⟩, ?_⟩
  obtain ⟨z, hz, hr⟩ := h.res
  exact ⟨z, hz, by rw [Below.heap_setCell _ _ _ _ (by simp)]; exact hr⟩
theorem av_start (L : Ld) (E : Ev) (w : World) (z : Array Value) (hz : z.size = 16) : AvRel L E 0 w (((w.alloc (.cells L.cells 34)).alloc (.cells E.cells 62)).alloc (.cells z 62)) := by
  have h := (pv_start L E w).box (.cells z 62)
  refine ⟨⟨h.cod, h.cev.same (allK_zero L E).symm, h.low⟩, z, hz, ?_⟩
  have := heap_alloc_new ((w.alloc (.cells L.cells 34)).alloc (.cells E.cells 62)) (.cells z 62)
  rw [World.size_alloc, World.size_alloc] at this; exact this

set_option maxRecDepth 100000 in
set_option maxHeartbeats 1000000 in
theorem all_any (L : Ld) (E : Ev) (w : World) :
    Calls Tryz.prog 74 #[.agg L.cells, .agg E.cells] w fun e w' => e = .returned (.agg (allE L E).cells) ∧ Below w.heap.size w w' := by
  go_enter Tryz.func74, Tryz.ntmps74
  go_wp2
  go_loopw [6] (fun c wr => ∃ k : Nat, k ≤ 6 ∧ c = .int .i64 k ∧ AvRel L E k w wr) (fun c _ => 6 - (intOf c).toNat)
  case atStart => exact ⟨0, by omega, rfl, av_start L E w _ rfl⟩
  case round =>
    obtain ⟨k, hle, rfl, R⟩ := hrel
    have HR := hide R
    clear R
    by_cases hk : k < 6
    · have C := hide (fun W => perc_any L (k : Int) (allK L E k) W)
      go_wp2_with (first | (refine wl_land (.tmp 2) rfl rfl _ L rfl HR.out.pv.cod ?_) | (refine wl_event (.tmp 3) rfl rfl _ (allK L E k) rfl HR.out.pv.cev ?_))
      refine (C.out _).mono ?_
      rintro e w1 ⟨rfl, hb⟩
      have R1 := hide (HR.out.call hb)
      have hc := R1.out.pv.cev.by' k hk
      have hf := R1.out.pv.cev.frozen (10 + k)
      clear hb C
      have N := hide (R1.out.put hk)
      have hp : Hid (percL L (k : Int) (allK L E k).kind (allK L E k).room (allK L E k).actor (allK L E k).other = percL L (k : Int) E.kind E.room E.actor E.other) := rfl
      rw [hp.out]
      go_wp2
      go_roundw
      case rel => exact ⟨k + 1, by omega, by go_num, N.out⟩
      case measure => simp [intOf]; omega
    · have hk6 : k = 6 := by omega
      subst hk6
      have HC := hide (HR.out.pv.cev.same (allK_all L E))
      obtain ⟨z, hz, hr⟩ := HR.out.res
      have HZ := hide hr
      have HS := hide hz
      clear hz hr
      go_wp2_with (first | (refine wl_event (.tmp 3) rfl rfl _ (allE L E) rfl HC.out ?_) | (refine wl_row 62 (.tmp 4) (.tmp 17) rfl rfl (w.heap.size + 2) (allE L E).cells rfl rfl 62 z HZ.out ?s1 ?s2 (Ev.one _) ?_))
      case s1 => rw [Ev.size]; exact Tryz.sizeEvent
      case s2 => rw [Ev.size]; exact HS.out
      refine bodyPost_ret (v := .agg (allE L E).cells) (results_cell_row rfl _ _ (w.heap.size + 2) 62 (allE L E).cells (0, 0) _ rfl (setRow_heap wr (w.heap.size + 2) _ _ _ _ HZ.out) Tryz.underlying62 rfl (by rw [Ev.size]; exact Tryz.sizeEvent)) rfl ⟨rfl, below_setRow HR.out.pv.low (by omega) _⟩
end Go.Proofs.YtaifjndkgfffpaaGreatDoor
