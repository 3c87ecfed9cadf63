/-
  Whether there is such a being, whether it is about, what is heard unseen, what is at a place: contracts.
-/
import Derived.Test.YtaifjndkgfffpaaDoorSnP
import Derived.Test.YtaifjndkgfffpaaDoorMgAH
namespace Go.Proofs.YtaifjndkgfffpaaDoor
open Go.RowKit
set_option linter.unusedVariables false

theorem sbeing_any (i : Int) (w : World) : Calls Tryd.prog 38 #[.int .i64 i] w fun e w' => e = .returned (.bool (amg i 6)) ∧ w' = w := by
  by_cases h0 : 0 ≤ i
  · go_enter Tryd.func38, Tryd.ntmps38
    go_wp2
    go_ret
    exact ⟨ret_bool (by simp [amg, h0]), rfl⟩
  · go_enter Tryd.func38, Tryd.ntmps38
    go_wp2
    go_ret
    exact ⟨ret_bool (by simp only [amg]; rw [decide_eq_false (by omega)]; rfl), rfl⟩

theorem unseen_any (k : Int) (w : World) : Calls Tryd.prog 105 #[.int .i64 k] w fun e w' => e = .returned (.bool (loud k)) ∧ w' = w := by
  have HV : Hid (∀ b : Bool, (b = true ↔ (k = 7 ∨ k = 14 ∨ k = 15)) → b = loud k) := by
    intro b hb
    rw [Bool.eq_iff_iff, hb]
    simp [loud, or_assoc]
  by_cases h7 : k = 7
  · subst h7
    go_enter Tryd.func105, Tryd.ntmps105
    go_wp2
    go_ret
    exact ⟨rfl, rfl⟩
  · by_cases h14 : k = 14
    · subst h14
      go_enter Tryd.func105, Tryd.ntmps105
      go_wp2
      go_ret
      exact ⟨rfl, rfl⟩
    · have e7 : (k == 7) = false := by simp [h7]
      have e14 : (k == 14) = false := by simp [h14]
      have H7 := hide h7
      have H14 := hide h14
      clear h7 h14
      go_enter Tryd.func105, Tryd.ntmps105
      go_wp2
      go_ret
      exact ⟨ret_bool (HV.out _ (by have h7 := H7.out; have h14 := H14.out; simp [h7, h14])), rfl⟩

set_option maxHeartbeats 400000 in
theorem shere_any (L : Ld) (b : Int) (w : World) :
    Calls Tryd.prog 104 #[.agg L.cells, .int .i64 b] w fun e w' => e = .returned (.bool (abtL L b)) ∧ Below w.heap.size w w' := by
  have hb : Hid (Below w.heap.size w (w.alloc (.cells L.cells 34))) := (Below.refl _ _).alloc (Nat.le_refl _) _
  cases ha : amg b 6 with
  | false =>
    have HV := hide (show abtL L b = false by simp [abtL, ha])
    go_enter Tryd.func104, Tryd.ntmps104
    go_wp2_with fail
    refine (sbeing_any b _).mono ?_
    rintro e w1 ⟨rfl, hw⟩
    rw [hw, ha]
    clear hw w1 ha
    go_wp2
    go_ret
    exact ⟨ret_bool HV.out.symm, hb.out⟩
  | true =>
    obtain ⟨h0, h6⟩ := amg_pos ha
    obtain ⟨k, rfl⟩ := Int.eq_ofNat_of_zero_le h0
    have HV := hide (show abtL L (k : Int) = L.here k by simp [abtL, ha])
    have c1 : (w.alloc (.cells L.cells 34)).cell? ⟨w.heap.size, 129 + k * 6 + 1, none⟩ = some (.bool (L.here k)) := (cod_new w L).being k 1 (by omega) (by omega)
    have HA := hide ha
    clear ha
    go_enter Tryd.func104, Tryd.ntmps104
    go_wp2_with fail
    refine (sbeing_any (k : Int) _).mono ?_
    rintro e w1 ⟨rfl, hw⟩
    rw [hw, HA.out]
    clear hw w1
    go_wp2
    go_ret
    exact ⟨ret_bool HV.out.symm, hb.out⟩

/-! ### What is at a place. -/
def isAt (L : Ld) (wh loc : Int) (i : Nat) : Bool := decide (L.wh i = wh) && decide (L.loc i = loc)
def hasK (L : Ld) (wh loc : Int) (k : Nat) : List Int := ((List.range k).filter (isAt L wh loc)).map Int.ofNat
theorem hasK_yes {L : Ld} {wh loc : Int} {k : Nat} (h : isAt L wh loc k = true) : hasK L wh loc (k + 1) = hasK L wh loc k ++ [(k : Int)] := by
  simp [hasK, List.range_succ, List.filter_append, h]
theorem hasK_no {L : Ld} {wh loc : Int} {k : Nat} (h : isAt L wh loc k = false) : hasK L wh loc (k + 1) = hasK L wh loc k := by
  simp [hasK, List.range_succ, List.filter_append, h]
theorem hasK_len (L : Ld) (wh loc : Int) (k : Nat) : (hasK L wh loc k).length ≤ k := by
  unfold hasK
  rw [List.length_map]
  exact Nat.le_trans (List.length_filter_le ..) (by simp)
theorem hasK_mem {L : Ld} {wh loc x : Int} {k : Nat} (h : x ∈ hasK L wh loc k) : ∃ i : Nat, x = (i : Int) ∧ i < k ∧ isAt L wh loc i = true := by
  unfold hasK at h
  rw [List.mem_map] at h
  obtain ⟨i, hi, rfl⟩ := h
  rw [List.mem_filter] at hi
  exact ⟨i, rfl, by simpa using hi.1, hi.2⟩
theorem hasK_of {L : Ld} {wh loc : Int} {i k : Nat} (hi : i < k) (h : isAt L wh loc i = true) : (i : Int) ∈ hasK L wh loc k := by
  unfold hasK
  rw [List.mem_map]
  exact ⟨i, List.mem_filter.2 ⟨by simpa using hi, h⟩, rfl⟩

/-- A round's head. -/
structure HRel (L : Ld) (w : World) (v : Value) (S : List Int) (wr : World) : Prop where
  own : wr.ownsRow (w.heap.size + 1) 3 1 v S.length (icells S)
  gd : GdRel L w wr
  size : w.heap.size + 1 ≤ wr.heap.size

theorem HRel.box {L : Ld} {w wr : World} {v : Value} {S : List Int} (h : HRel L w v S wr) (o : Obj) : HRel L w v S (wr.alloc o) :=
  ⟨h.own.alloc o, h.gd.box o, by have := h.size; simp; omega⟩

theorem HRel.next {L : Ld} {w wr wr' : World} {v v' : Value} {S : List Int} {i : Int} (h : HRel L w v S wr)
    (ho : wr'.ownsRow (w.heap.size + 1) 3 1 v' (S.length + 1) (icells S ++ [.int .i64 i])) (hg : wr.grownBy wr' v.ownBlock) : HRel L w v' (S ++ [i]) wr' := by
  have hb : Below (w.heap.size + 1) wr wr' := (Below.refl _ _ : Below (w.heap.size + 1) wr wr).grown hg (by have := h.size; omega) (fun k hk => (h.own.lt k (by simpa using hk)).1)
  refine ⟨?_, ⟨?_, h.gd.low.trans (hb.mono (by omega))⟩, by have := hb.size; have := h.size; omega⟩
  · have e1 : (S ++ [i]).length = S.length + 1 := by simp
    have e2 : icells (S ++ [i]) = icells S ++ [.int .i64 i] := by simp [icells]
    rw [e1, e2]; exact ho
  · have := h.gd.cod
    unfold Cod at this ⊢
    rw [hb.block _ (by omega)]; exact this

/-- A thing out of the array of all. -/
theorem wl_ithingT {ops : Array Oper} {rest : List Oper} {op : Oper} {a : Act} {w : World} {Q : Exit → Act → World → Prop} (x y : Operand) (ho : op.op = .index 29 x y) (hw : Region.wanted op (yielded ops a.tmps) = true) (k : Nat) (L : Ld) (hx : a.eval x = .agg L.thingsA) (hy : a.eval y = .int .i64 (k : Int)) (hk : k < 9)
    (h : wpList Tryd.prog ops Q rest (a.put op.dst (.agg #[.string (L.tname k), .int .i64 (L.kind k), .int .i64 (L.wh k), .int .i64 (L.loc k), .bool (L.on k)])) w) : wpList Tryd.prog ops Q (op :: rest) a w :=
  wl_ithing x y ho hw k L hx hy hk h

set_option maxRecDepth 100000 in
set_option maxHeartbeats 1000000 in
theorem has_own (L : Ld) (wh loc : Int) (w : World) :
    Calls Tryd.prog 85 #[.agg L.cells, .int .i64 wh, .int .i64 loc] w fun e w' => ∃ v, e = .returned v ∧ w'.ownsRow (w.heap.size + 1) 3 1 v (hasK L wh loc 9).length (icells (hasK L wh loc 9)) ∧ Below w.heap.size w w' := by
  obtain ⟨i0, hi0, hz0, hz1, hz2⟩ := info_parts Tryd.info3
  go_enter Tryd.func85, Tryd.ntmps85
  go_wp2_with (refine wl_things (.tmp 10) rfl rfl _ L rfl (cod_new w L) ?_)
  go_loopw [7, 12] (fun v c wr => ∃ k : Nat, k ≤ 9 ∧ c = .int .i64 k ∧ HRel L w v (hasK L wh loc k) wr) (fun _ c _ => 9 - (intOf c).toNat)
  case atStart => exact ⟨0, by omega, rfl, World.ownsRow_nil _ _ _ _, gd_start L w, by simp⟩
  case round =>
    obtain ⟨k, hle, rfl, R⟩ := hrel
    obtain ⟨av, cap, rfl⟩ := own_shapeN R.own
    have HR := hide R
    clear R
    by_cases hk : k < 9
    · cases h1 : decide (L.wh k = wh) with
      | false =>
        have e1 : (L.wh k == wh) = false := by simpa using h1
        have HN := hide (hasK_no (L := L) (wh := wh) (loc := loc) (k := k) (by simp [isAt, h1]))
        clear h1
        go_wp2_with (first | (refine wl_ithingT (.tmp 11) (.tmp 12) rfl rfl k L rfl rfl hk ?_) | (refine wl_new 28 (.tmp 9) (.tmp 15) rfl rfl _ _ rfl rfl rfl Tryd.sizeThing rfl rfl ?_))
        go_roundw
        case rel => exact ⟨k + 1, by omega, by go_num, by rw [HN.out]; exact HR.out.box _⟩
        case measure => simp [intOf]; omega
      | true =>
        have e1 : (L.wh k == wh) = true := by simpa using h1
        cases h2 : decide (L.loc k = loc) with
        | false =>
          have e2 : (L.loc k == loc) = false := by simpa using h2
          have HN := hide (hasK_no (L := L) (wh := wh) (loc := loc) (k := k) (by simp [isAt, h2]))
          clear h1 h2
          go_wp2_with (first | (refine wl_ithingT (.tmp 11) (.tmp 12) rfl rfl k L rfl rfl hk ?_) | (refine wl_new 28 (.tmp 9) (.tmp 15) rfl rfl _ _ rfl rfl rfl Tryd.sizeThing rfl rfl ?_))
          go_roundw
          case rel => exact ⟨k + 1, by omega, by go_num, by rw [HN.out]; exact HR.out.box _⟩
          case measure => simp [intOf]; omega
        | true =>
          have e2 : (L.loc k == loc) = true := by simpa using h2
          have HN := hide (hasK_yes (L := L) (wh := wh) (loc := loc) (k := k) (by simp [isAt, h1, h2]))
          have hlen := hasK_len L wh loc k
          have hsz := HR.out.size
          clear h1 h2
          generalize hasK L wh loc k = S at *
          go_wp2_with (first | (refine wl_ithingT (.tmp 11) (.tmp 12) rfl rfl k L rfl rfl hk ?_) | (refine wl_new 28 (.tmp 9) (.tmp 15) rfl rfl _ _ rfl rfl rfl Tryd.sizeThing rfl rfl ?_) | (at_builtin; refine wpList_append_own_at _ rfl (.tmp 26) (.tmp 28) 71 rfl (w.heap.size + 1) 3 i0 (.int .i64 0) 1 8 Tryd.underlying71 hi0 hz0 hz1 hz2 rfl (by decide) _ S.length (icells S) rfl ((HR.out.own.alloc _).alloc _) ⟨wr.heap.size + 1, 0, none⟩ 1 1 [.int .i64 (k : Int)] rfl ?a1 ?a2 ?a3 ?a4 ?a5 ?a6 ?_))
          case a1 => rfl
          case a2 =>
            intro j u hj
            match j, hj with
            | 0, hj => simp at hj; subst hj; simp [Addr.add]
          case a3 => intro u hu; simp at hu; subst hu; rfl
          case a4 => unfold maxLen; omega
          case a5 => omega
          case a6 => simp; omega
          intro v' w1 ho hg _ _
          have N := hide (((HR.out.box _).box _).next ho hg)
          obtain ⟨av', cap', rfl⟩ := own_shapeN ho
          clear ho hg
          go_wp2
          go_roundw
          case rel => exact ⟨k + 1, by omega, by go_num, by rw [HN.out]; exact N.out⟩
          case measure => simp [intOf]; omega
    · have hk9 : k = 9 := by omega
      subst hk9
      go_wp2
      go_ret
      exact ⟨_, rfl, HR.out.own, HR.out.gd.low⟩
theorem has_any (L : Ld) (wh loc : Int) (w : World) :
    Calls Tryd.prog 85 #[.agg L.cells, .int .i64 wh, .int .i64 loc] w fun e w' => ∃ v, e = .returned v ∧ Nums w' v (hasK L wh loc 9) ∧ Below w.heap.size w w' :=
  (has_own L wh loc w).mono fun e w' ⟨v, he, ho, hb⟩ => ⟨v, he, nums_own ho, hb⟩
end Go.Proofs.YtaifjndkgfffpaaDoor
