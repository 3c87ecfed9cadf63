/-
  Whoever looks is told so: the contract.
-/
import Derived.Test.YtaifjndkgfffpaaDoorMgAY
import Derived.Test.YtaifjndkgfffpaaDoorRuLook2
namespace Go.Proofs.YtaifjndkgfffpaaDoor
open Go.RowKit
set_option linter.unusedVariables false

theorem Sn.roomR {T : TypeId} {pre : List Value} {w0 w : World} {L : Ld} {Es : List Ev} (h : Sn T pre w0 L Es w) (k : Nat) (hk : k < 6) : w.rangeAt w0.heap.size (k * 14) (L.rcells k).toList := by
  intro j v hv
  have hj : j < 14 := by
    have := (List.getElem?_eq_some_iff.1 hv).1; simpa [Ld.rcells] using this
  rw [h.room k j hk hj, ← hv]
  have := L.rcells_get k j hj
  simpa using this.symm
theorem wl_sroom {ops : Array Oper} {rest : List Oper} {op : Oper} {a : Act} {w : World} {Q : Exit → Act → World → Prop} (x : Operand) (ho : op.op = .load 25 x) (hw : Region.wanted op (yielded ops a.tmps) = true) {T : TypeId} {pre : List Value} {w0 : World} {L : Ld} {Es : List Ev} (k : Nat)
    (hx : a.eval x = .pointer (some ⟨w0.heap.size, k * 14, none⟩)) (hc : Sn T pre w0 L Es w) (hk : k < 6) (h : wpList Tryd.prog ops Q rest (a.put op.dst (.agg (L.rcells k))) w) : wpList Tryd.prog ops Q (op :: rest) a w :=
  wl_mid 25 x ho hw w0.heap.size (k * 14) (L.rcells k).toList _ hx (hc.roomR k hk) Tryd.underlying25 rfl Tryd.sizeRoom h

set_option maxRecDepth 100000 in
set_option maxHeartbeats 2000000 in
theorem rlook_any {w0 : World} {L : Ld} {Es : List Ev} {w : World} (hS : Sn 62 [] w0 L Es w) (hf : Fine L) (hv : Vb w0) (b : Nat) (hb : b < 6) (hlen : Es.length ≤ 900000) :
    Calls Tryd.prog 43 #[.pointer (some ⟨w0.heap.size, 0, none⟩), .int .i64 (b : Int)] w fun e w' => e = .returned (.tuple #[]) ∧ Sn 62 [] w0 L (Es ++ lookE L b) w' ∧ Stp w0.heap.size 165 w w' := by
  obtain ⟨r, hr, er⟩ := hf.room b hb
  have HS := hide hS
  have c3 := hS.being b 3 hb (by omega)
  simp only [Ld.beingCell] at c3
  rw [er] at c3
  have HF := hide hf
  have HV := hide hv
  have hbi : (b : Int) < 6 := by omega
  have hri : (r : Int) < 6 := by omega
  have HER := hide er
  clear hS hf hv er
  go_enter Tryd.func43, Tryd.ntmps43
  go_wp2_with (refine wl_scene (.tmp 17) rfl rfl rfl HS.out ?_)
  refine (bright_any L (r : Int) _).mono ?_
  rintro e w1 ⟨rfl, hb1⟩
  have S1 := hide (HS.out.below hb1)
  have T1 := hide (HS.out.stp hb1 165)
  clear hb1 c3 HS
  cases hx : brightL L (r : Int) with
  | false =>
    have HE := hide (show lookE L b = [tellE L b darkS] by unfold lookE; rw [HER.out, if_neg (by simp [hx])])
    clear hx
    go_wp2_with fail
    refine (rtell_any S1.out b hb _ (by omega)).mono ?_
    rintro e w2 ⟨rfl, S2, T2⟩
    have A := hide S2
    have B := hide (T1.out.trans T2)
    clear S2 T2
    go_wp2
    exact bodyPost_ret (v := .tuple #[]) (results_none rfl _ _ _) rfl ⟨rfl, by rw [HE.out]; exact A.out, B.out⟩
  | true =>
    have HE := hide (show lookE L b = [tellE L b (theS ++ L.rname r ++ dotT), tellE L b (waysS ++ waysK L r 6)] ++ (if sightL L b = [] then [] else [tellE L b (hereS ++ listedT L (sightL L b))]) ++ othersK L b 6 by
      unfold lookE; rw [HER.out, if_pos hx]; rfl)
    clear hx
    have c0 := S1.out.room r 0 hr (by omega)
    simp only [Nat.add_zero, Ld.roomCell] at c0
    have hs0 := HF.out.rname r hr
    have hs4 : (⟨#[84, 104, 101, 32]⟩ : ByteArray).size = 4 := rfl
    go_wp2_with fail
    refine (rtell_any S1.out b hb _ (by omega)).mono ?_
    rintro e w2 ⟨rfl, S2h, T2h⟩
    have S2 := hide S2h
    have T2 := hide (T1.out.trans T2h)
    clear S2h T2h S1 T1 c0 hs0 hs4
    go_wp2_with (refine wl_sroom (.tmp 45) rfl rfl r rfl S2.out hr ?_)
    refine (ways_any L r _ (HV.out.below S2.out.low (Nat.le_refl _))).mono ?_
    rintro e w3 ⟨rfl, hb3⟩
    have S3 := hide (S2.out.below hb3)
    have T3 := hide (T2.out.trans (S2.out.stp hb3 165))
    clear hb3 S2 T2
    have hs5 := ways_size L r 6 (Nat.le_refl _)
    have hs6 : (⟨#[87, 97, 121, 115, 58]⟩ : ByteArray).size = 5 := rfl
    have HW : Hid (waysK L r 6 = waysK L r 6) := rfl
    generalize hA : waysK L r 6 = A at *
    have HA := hide hA
    clear hA
    go_wp2_with fail
    refine (rtell_any S3.out b hb _ (by simp; omega)).mono ?_
    rintro e w4 ⟨rfl, S4h, T4h⟩
    have S4 := hide S4h
    have T4 := hide (T3.out.trans T4h)
    clear S4h T4h S3 T3 hs5 hs6
    go_wp2_with fail
    refine (sight_any S4.out b hb).mono ?_
    rintro e w5 ⟨v, rfl, ho, hb5⟩
    have S5 := hide (S4.out.below hb5)
    have T5 := hide (T4.out.trans (S4.out.stp hb5 165))
    have N5 := hide (numk_own S4.out hb5 ho)
    obtain ⟨av, cap, rfl⟩ := ho.shape
    clear ho hb5 S4 T4
    by_cases h0 : sightL L b = []
    · have hz : (sightL L b).length = 0 := by rw [h0]; rfl
      have HE2 := hide (show lookE L b = ([tellE L b (theS ++ L.rname r ++ dotT), tellE L b (waysS ++ A)] ++ []) ++ othersK L b 6 by rw [HE.out, if_pos h0])
      rw [hz]
      clear h0 hz HE N5
      have HE := HE2
      clear HE2
      go_wp2_with fail
      go_loopw [63] (fun c wr => ∃ k : Nat, k ≤ 6 ∧ c = .int .i64 k ∧ Sn 62 [] w0 L (((Es ++ [tellE L b (theS ++ L.rname r ++ dotT)]) ++ [tellE L b (waysS ++ A)]) ++ othersK L b k) wr ∧ Stp w0.heap.size 165 w wr) (fun c _ => 6 - (intOf c).toNat)
      case atStart => exact ⟨0, by omega, rfl, by simp only [othersK, List.range_zero, List.filter_nil, List.map_nil, List.append_nil]; exact S5.out, T5.out⟩
      case round =>
        obtain ⟨k, hle, rfl, Rh, Th⟩ := hrel
        have R := hide Rh
        have TT := hide Th
        clear Rh Th S5 T5
        by_cases hk : k < 6
        · have hki : (k : Int) < 6 := by omega
          go_wp2_with fail
          refine (seesOther_any R.out b k).mono ?_
          rintro e wa ⟨rfl, hba⟩
          have R1 := hide (R.out.below hba)
          have T1 := hide (TT.out.trans (R.out.stp hba 165))
          clear hba R TT
          cases hx : seesO L b k with
          | false =>
            have HN := hide (others_no hx)
            clear hx
            go_wp2
            go_roundw
            case rel => exact ⟨k + 1, by omega, by go_num, by rw [HN.out]; exact R1.out, T1.out⟩
            case measure => simp [intOf]; omega
          | true =>
            have HN := hide (others_yes hx)
            clear hx
            have c0 := R1.out.being k 0 hk (by omega)
            simp only [Nat.add_zero, Ld.beingCell] at c0
            have hs0 := HF.out.bname k hk
            have hol := others_len L b k
            go_wp2_with fail
            refine (rtell_any R1.out b hb _ (by simp only [List.length_append, List.length_cons, List.length_nil]; omega)).mono ?_
            rintro e wb ⟨rfl, Sb, Tb⟩
            have R2 := hide Sb
            have T2 := hide (T1.out.trans Tb)
            clear Sb Tb R1 T1 c0 hs0 hol
            go_wp2
            go_roundw
            case rel => exact ⟨k + 1, by omega, by go_num, by rw [HN.out, ← List.append_assoc]; exact R2.out, T2.out⟩
            case measure => simp [intOf]; omega
        · have hk6 : k = 6 := by omega
          subst hk6
          go_wp2
          go_end0
          exact ⟨rfl, by rw [HE.out]; simpa only [List.append_assoc, List.append_nil, List.cons_append, List.nil_append] using R.out, TT.out⟩
    · have hz : 0 < (sightL L b).length := List.length_pos_iff.2 h0
      have hz2 := sight_len L b
      have HE2 := hide (show lookE L b = ([tellE L b (theS ++ L.rname r ++ dotT), tellE L b (waysS ++ A)] ++ [tellE L b (hereS ++ listedT L (sightL L b))]) ++ othersK L b 6 by rw [HE.out, if_neg h0])
      clear h0 HE
      have HE := HE2
      clear HE2
      have hzi : decide ((0 : Int) < ((sightL L b).length : Int)) = true := by simp; omega
      go_wp2_with fail
      refine (listed_any S5.out HF.out N5.out (fun x hx => sight_lt hx) (by omega)).mono ?_
      rintro e w6 ⟨rfl, hb6⟩
      have S6 := hide (S5.out.below hb6)
      have T6 := hide (T5.out.trans (S5.out.stp hb6 165))
      clear hb6 S5 T5 N5
      have hs7 : (listedT L (sightL L b)).size ≤ 30000000 := by
        unfold listedT
        have h1 : dotT.size = 1 := rfl
        have h2 : nothingT.size = 8 := rfl
        have h3 := names_size HF.out (sightL L b) (fun x hx => sight_lt hx)
        have h4 : (sightL L b).length * 1048578 ≤ 9 * 1048578 := Nat.mul_le_mul_right _ hz2
        split <;> simp only [ByteArray.size_append] <;> omega
      have hs8 : (⟨#[72, 101, 114, 101, 32, 105, 115]⟩ : ByteArray).size = 7 := rfl
      generalize listedT L (sightL L b) = B at *
      go_wp2_with fail
      refine (rtell_any S6.out b hb _ (by simp only [List.length_append, List.length_cons, List.length_nil]; omega)).mono ?_
      rintro e w7 ⟨rfl, S7h, T7h⟩
      have S7 := hide S7h
      have T7 := hide (T6.out.trans T7h)
      clear S7h T7h S6 T6 hs7 hs8 hz hz2 hzi
      go_wp2_with fail
      go_loopw [63] (fun c wr => ∃ k : Nat, k ≤ 6 ∧ c = .int .i64 k ∧ Sn 62 [] w0 L ((((Es ++ [tellE L b (theS ++ L.rname r ++ dotT)]) ++ [tellE L b (waysS ++ A)]) ++ [tellE L b (hereS ++ B)]) ++ othersK L b k) wr ∧ Stp w0.heap.size 165 w wr) (fun c _ => 6 - (intOf c).toNat)
      case atStart => exact ⟨0, by omega, rfl, by simp only [othersK, List.range_zero, List.filter_nil, List.map_nil, List.append_nil]; exact S7.out, T7.out⟩
      case round =>
        obtain ⟨k, hle, rfl, Rh, Th⟩ := hrel
        have R := hide Rh
        have TT := hide Th
        clear Rh Th S7 T7
        by_cases hk : k < 6
        · have hki : (k : Int) < 6 := by omega
          go_wp2_with fail
          refine (seesOther_any R.out b k).mono ?_
          rintro e wa ⟨rfl, hba⟩
          have R1 := hide (R.out.below hba)
          have T1 := hide (TT.out.trans (R.out.stp hba 165))
          clear hba R TT
          cases hx : seesO L b k with
          | false =>
            have HN := hide (others_no hx)
            clear hx
            go_wp2
            go_roundw
            case rel => exact ⟨k + 1, by omega, by go_num, by rw [HN.out]; exact R1.out, T1.out⟩
            case measure => simp [intOf]; omega
          | true =>
            have HN := hide (others_yes hx)
            clear hx
            have c0 := R1.out.being k 0 hk (by omega)
            simp only [Nat.add_zero, Ld.beingCell] at c0
            have hs0 := HF.out.bname k hk
            have hol := others_len L b k
            go_wp2_with fail
            refine (rtell_any R1.out b hb _ (by simp only [List.length_append, List.length_cons, List.length_nil]; omega)).mono ?_
            rintro e wb ⟨rfl, Sb, Tb⟩
            have R2 := hide Sb
            have T2 := hide (T1.out.trans Tb)
            clear Sb Tb R1 T1 c0 hs0 hol
            go_wp2
            go_roundw
            case rel => exact ⟨k + 1, by omega, by go_num, by rw [HN.out, ← List.append_assoc]; exact R2.out, T2.out⟩
            case measure => simp [intOf]; omega
        · have hk6 : k = 6 := by omega
          subst hk6
          go_wp2
          go_end0
          exact ⟨rfl, by rw [HE.out]; simpa only [List.append_assoc, List.append_nil, List.cons_append, List.nil_append] using R.out, TT.out⟩
end Go.Proofs.YtaifjndkgfffpaaDoor
