/-
  A form filled: its contract.
-/
import Derived.Test.YtdembcpljjgbkadDoorSnFill
import Derived.Lib.ItoaLen
namespace Go.Proofs.YtdembcpljjgbkadDoor
open Go.RowKit
set_option linter.unusedVariables false

theorem mark_nat (E : Ev) (c : UInt8) : markL E c = if c.toNat = 65 then E.who.data.toList else if c.toNat = 79 then E.whom.data.toList else if c.toNat = 84 then E.thing.data.toList else if c.toNat = 68 then calledI E.dir else if c.toNat = 88 then E.text.data.toList else if c.toNat = 78 then Lib.itoa E.num else [c] := by
  have e : ∀ n : Nat, n < 256 → (c = UInt8.ofNat n) = (c.toNat = n) := fun n hn => propext ⟨fun h => by rw [h, UInt8.toNat_ofNat']; omega, fun h => by rw [← h, UInt8.ofNat_toNat]⟩
  have e1 : (c = 65) = (c.toNat = 65) := e 65 (by decide)
  have e2 : (c = 79) = (c.toNat = 79) := e 79 (by decide)
  have e3 : (c = 84) = (c.toNat = 84) := e 84 (by decide)
  have e4 : (c = 68) = (c.toNat = 68) := e 68 (by decide)
  have e5 : (c = 88) = (c.toNat = 88) := e 88 (by decide)
  have e6 : (c = 78) = (c.toNat = 78) := e 78 (by decide)
  unfold markL
  simp only [e1, e2, e3, e4, e5, e6]
theorem len_of (s : ByteArray) : s.data.toList.length = s.size := by rw [Array.length_toList]; rfl

set_option maxRecDepth 100000 in
set_option maxHeartbeats 4000000 in
theorem filled_any (f : ByteArray) (E : Ev) (w : World) (hv : Vb w) (hai : Ai w) (hn0 : -9223372036854775808 ≤ E.num) (hn1 : E.num ≤ 9223372036854775807) (hf : f.size ≤ 140737488355328) (hs : (fillL E f.data.toList).length + 21 ≤ 140737488355328) :
    Calls Tryd.prog 42 #[.string f, .agg E.cells] w fun e w' => e = .returned (.string (bs (fillL E f.data.toList))) ∧ Below w.heap.size w w' := by
  obtain ⟨i0, hi0, hz0, hz1, hz2⟩ := info_parts Tryd.info5
  have HV := hide hv
  have HAi := hide hai
  have HN := hide (And.intro hn0 hn1)
  have HT := hide hs
  clear hv hai hn0 hn1 hs
  go_enter Tryd.func42, Tryd.ntmps42
  go_wp2
  go_loopw [5, 9] (fun v i wr => ∃ k : Nat, k ≤ f.size ∧ i = .int .i64 k ∧ FRel E w v (fillL E (f.data.toList.take k)) wr) (fun _ i _ => f.size - (intOf i).toNat)
  case atStart => exact ⟨0, Nat.zero_le _, rfl, fr_start E w⟩
  case round =>
    obtain ⟨k, hk, rfl, R⟩ := hrel
    by_cases hlt : k < f.size
    · have hkl : k < f.data.toList.length := by rw [len_of]; exact hlt
      have HS := hide (fill_snoc E f.data.toList k hkl)
      have hb := fill_le E f.data.toList (k + 1)
      rw [HS.out, List.length_append] at hb
      have HB := hide (show (fillL E (f.data.toList.take k)).length + (markL E f.data.toList[k]).length ≤ 140737488355307 by have := HT.out; omega)
      have HP := hide (show (fillL E (f.data.toList.take k)).length + 21 ≤ 140737488355328 by have := HT.out; omega)
      clear hb
      obtain ⟨c, hc⟩ : ∃ c : UInt8, c = f.data.toList[k] := ⟨_, rfl⟩
      obtain ⟨x, hxc⟩ : ∃ x : Nat, x = c.toNat := ⟨_, rfl⟩
      have hg : ∀ h, (f[k]'h).toNat = x := fun _ => by rw [hxc, hc]; simp; rfl
      have h256 : x < 256 := by rw [hxc]; exact c.toNat_lt
      rw [← hc] at HS HB
      have HC := hide hxc
      have HL := hide (Lib.itoa_length_le E.num HN.out.1 HN.out.2)
      clear hc hxc hkl
      generalize fillL E (f.data.toList.take k) = l at *
      obtain ⟨av, cap, rfl⟩ := own_shapeB R.own
      have HR := hide R
      clear R
      by_cases hx : x = 65
      · have HM := hide (show markL E c = E.who.data.toList by rw [mark_nat, ← HC.out]; rw [if_pos hx])
        clear HC
        subst hx
        have kf := HR.out.cev.who
        go_wp2_with (at_builtin; refine Lib.wpList_append_own_string _ rfl (.tmp 23) (.tmp 25) 87 9 rfl (w.heap.size + 1) 5 i0 Tryd.underlying87 Tryd.underlying9 hi0 hz0 hz1 hz2 _ l.length (Lib.byteCells l) rfl HR.out.own E.who rfl ?b1 ?b2 ?b3 ?_)
        case b1 => unfold maxLen; have h1 := HB.out; have h2 := HM.out; have h3 := size_len (E.who); rw [h2] at h1; omega
        case b2 => have h1 := HB.out; have h2 := HM.out; have h3 := size_len (E.who); rw [h2] at h1; omega
        case b3 => have := HR.out.size; omega
        intro v' w1 ho hg _
        have N := hide (HR.out.grown (m := markL E c) (v' := v') (by rw [HM.out]; rw [size_len]; exact ho) hg)
        obtain ⟨av', cap', rfl⟩ := own_shapeB ho
        clear ho hg
        go_wp2
        go_roundw
        case rel => exact ⟨k + 1, hlt, by go_num, by rw [HS.out]; exact N.out⟩
        case measure => simp [intOf]; omega
      · have n65 : ((x : Int) == 65) = false := by simp; omega
        by_cases hx : x = 79
        · have HM := hide (show markL E c = E.whom.data.toList by rw [mark_nat, ← HC.out]; rw [if_neg (by omega)]; rw [if_pos hx])
          clear HC
          subst hx
          have kf := HR.out.cev.whom
          go_wp2_with (at_builtin; refine Lib.wpList_append_own_string _ rfl (.tmp 29) (.tmp 31) 87 9 rfl (w.heap.size + 1) 5 i0 Tryd.underlying87 Tryd.underlying9 hi0 hz0 hz1 hz2 _ l.length (Lib.byteCells l) rfl HR.out.own E.whom rfl ?b1 ?b2 ?b3 ?_)
          case b1 => unfold maxLen; have h1 := HB.out; have h2 := HM.out; have h3 := size_len (E.whom); rw [h2] at h1; omega
          case b2 => have h1 := HB.out; have h2 := HM.out; have h3 := size_len (E.whom); rw [h2] at h1; omega
          case b3 => have := HR.out.size; omega
          intro v' w1 ho hg _
          have N := hide (HR.out.grown (m := markL E c) (v' := v') (by rw [HM.out]; rw [size_len]; exact ho) hg)
          obtain ⟨av', cap', rfl⟩ := own_shapeB ho
          clear ho hg
          go_wp2
          go_roundw
          case rel => exact ⟨k + 1, hlt, by go_num, by rw [HS.out]; exact N.out⟩
          case measure => simp [intOf]; omega
        · have n79 : ((x : Int) == 79) = false := by simp; omega
          by_cases hx : x = 84
          · have HM := hide (show markL E c = E.thing.data.toList by rw [mark_nat, ← HC.out]; rw [if_neg (by omega)]; rw [if_neg (by omega)]; rw [if_pos hx])
            clear HC
            subst hx
            have kf := HR.out.cev.thing
            go_wp2_with (at_builtin; refine Lib.wpList_append_own_string _ rfl (.tmp 35) (.tmp 37) 87 9 rfl (w.heap.size + 1) 5 i0 Tryd.underlying87 Tryd.underlying9 hi0 hz0 hz1 hz2 _ l.length (Lib.byteCells l) rfl HR.out.own E.thing rfl ?b1 ?b2 ?b3 ?_)
            case b1 => unfold maxLen; have h1 := HB.out; have h2 := HM.out; have h3 := size_len (E.thing); rw [h2] at h1; omega
            case b2 => have h1 := HB.out; have h2 := HM.out; have h3 := size_len (E.thing); rw [h2] at h1; omega
            case b3 => have := HR.out.size; omega
            intro v' w1 ho hg _
            have N := hide (HR.out.grown (m := markL E c) (v' := v') (by rw [HM.out]; rw [size_len]; exact ho) hg)
            obtain ⟨av', cap', rfl⟩ := own_shapeB ho
            clear ho hg
            go_wp2
            go_roundw
            case rel => exact ⟨k + 1, hlt, by go_num, by rw [HS.out]; exact N.out⟩
            case measure => simp [intOf]; omega
          · have n84 : ((x : Int) == 84) = false := by simp; omega
            by_cases hx : x = 68
            · have HM := hide (show markL E c = calledI E.dir by rw [mark_nat, ← HC.out]; rw [if_neg (by omega)]; rw [if_neg (by omega)]; rw [if_neg (by omega)]; rw [if_pos hx])
              clear HC
              subst hx
              have kf := HR.out.cev.dir
              go_wp2_with fail
              refine (called_any E.dir _ (HV.out.below HR.out.low (Nat.le_refl _))).mono ?_
              rintro e w9 ⟨rfl, hw⟩
              rw [hw]
              clear hw w9
              go_wp2_with (at_builtin; refine Lib.wpList_append_own_string _ rfl (.tmp 41) (.tmp 44) 87 9 rfl (w.heap.size + 1) 5 i0 Tryd.underlying87 Tryd.underlying9 hi0 hz0 hz1 hz2 _ l.length (Lib.byteCells l) rfl HR.out.own (bs (calledI E.dir)) rfl ?b1 ?b2 ?b3 ?_)
              case b1 => unfold maxLen; have h1 := HB.out; have h2 := HM.out; have h3 := size_len ((bs (calledI E.dir))); rw [h2] at h1; rw [bs_data] at h3; omega
              case b2 => have h1 := HB.out; have h2 := HM.out; have h3 := size_len ((bs (calledI E.dir))); rw [h2] at h1; rw [bs_data] at h3; omega
              case b3 => have := HR.out.size; omega
              intro v' w1 ho hg _
              have N := hide (HR.out.grown (m := markL E c) (v' := v') (by rw [HM.out]; rw [bs_size] at ho; exact ho) hg)
              obtain ⟨av', cap', rfl⟩ := own_shapeB ho
              clear ho hg
              go_wp2
              go_roundw
              case rel => exact ⟨k + 1, hlt, by go_num, by rw [HS.out]; exact N.out⟩
              case measure => simp [intOf]; omega
            · have n68 : ((x : Int) == 68) = false := by simp; omega
              by_cases hx : x = 88
              · have HM := hide (show markL E c = E.text.data.toList by rw [mark_nat, ← HC.out]; rw [if_neg (by omega)]; rw [if_neg (by omega)]; rw [if_neg (by omega)]; rw [if_neg (by omega)]; rw [if_pos hx])
                clear HC
                subst hx
                have kf := HR.out.cev.text
                go_wp2_with (at_builtin; refine Lib.wpList_append_own_string _ rfl (.tmp 48) (.tmp 50) 87 9 rfl (w.heap.size + 1) 5 i0 Tryd.underlying87 Tryd.underlying9 hi0 hz0 hz1 hz2 _ l.length (Lib.byteCells l) rfl HR.out.own E.text rfl ?b1 ?b2 ?b3 ?_)
                case b1 => unfold maxLen; have h1 := HB.out; have h2 := HM.out; have h3 := size_len (E.text); rw [h2] at h1; omega
                case b2 => have h1 := HB.out; have h2 := HM.out; have h3 := size_len (E.text); rw [h2] at h1; omega
                case b3 => have := HR.out.size; omega
                intro v' w1 ho hg _
                have N := hide (HR.out.grown (m := markL E c) (v' := v') (by rw [HM.out]; rw [size_len]; exact ho) hg)
                obtain ⟨av', cap', rfl⟩ := own_shapeB ho
                clear ho hg
                go_wp2
                go_roundw
                case rel => exact ⟨k + 1, hlt, by go_num, by rw [HS.out]; exact N.out⟩
                case measure => simp [intOf]; omega
              · have n88 : ((x : Int) == 88) = false := by simp; omega
                by_cases hx : x = 78
                · have HM := hide (show markL E c = Lib.itoa E.num by rw [mark_nat, ← HC.out]; rw [if_neg (by omega)]; rw [if_neg (by omega)]; rw [if_neg (by omega)]; rw [if_neg (by omega)]; rw [if_neg (by omega)]; rw [if_pos hx])
                  clear HC
                  subst hx
                  have kf := HR.out.cev.num
                  have hlen := HL.out
                  go_wp2_with fail
                  refine (HAi.out wr (w.heap.size + 1) l.length E.num _ (Lib.byteCells l) HR.out.low (by omega) HN.out.1 HN.out.2 HR.out.own HR.out.size (by have h1 := HP.out; omega)).mono ?_
                  rintro e w1 ⟨v', rfl, ho, hb⟩
                  have N := hide (HR.out.on (m := markL E c) (v' := v') (by rw [HM.out]; exact ho) hb)
                  obtain ⟨av', cap', rfl⟩ := own_shapeB ho
                  clear ho hb
                  go_wp2
                  go_roundw
                  case rel => exact ⟨k + 1, hlt, by go_num, by rw [HS.out]; exact N.out⟩
                  case measure => simp [intOf]; omega
                · have n78 : ((x : Int) == 78) = false := by simp; omega
                  have HM := hide (show markL E c = [c] by rw [mark_nat, ← HC.out]; rw [if_neg (by omega)]; rw [if_neg (by omega)]; rw [if_neg (by omega)]; rw [if_neg (by omega)]; rw [if_neg (by omega)]; rw [if_neg (by omega)])
                  have hcx := hide (show Value.int .u8 (x : Int) = Value.int .u8 (c.toNat : Int) by rw [HC.out])
                  go_wp2_with (at_builtin; refine wpList_append_own_at _ rfl (.tmp 15) (.tmp 19) 87 rfl (w.heap.size + 1) 5 i0 (.int .u8 0) 1 1 Tryd.underlying87 hi0 hz0 hz1 hz2 rfl (by decide) _ l.length (Lib.byteCells l) rfl (HR.out.own.alloc _) ⟨wr.heap.size, 0, none⟩ 1 1 [.int .u8 (x : Int)] rfl ?a1 ?a2 ?a3 ?a4 ?a5 ?a6 ?_)
                  case a1 => rfl
                  case a2 =>
                    intro j u hj
                    match j, hj with
                    | 0, hj => simp at hj; subst hj; simp [Addr.add]
                  case a3 => intro u hu; simp at hu; subst hu; rfl
                  case a4 => unfold maxLen; have h1 := HP.out; omega
                  case a5 => have h1 := HP.out; omega
                  case a6 => have := HR.out.size; simp; omega
                  intro v' w1 ho hg _ _
                  have N := hide ((HR.out.box _).grown (m := markL E c) (v' := v') (by rw [HM.out]; rw [hcx.out] at ho; exact ho) hg)
                  obtain ⟨av', cap', rfl⟩ := own_shapeB ho
                  clear ho hg
                  go_wp2
                  go_roundw
                  case rel => exact ⟨k + 1, hlt, by go_num, by rw [HS.out]; exact N.out⟩
                  case measure => simp [intOf]; omega
    · have e : fillL E (f.data.toList.take k) = fillL E f.data.toList := by rw [List.take_of_length_le (by rw [len_of]; omega)]
      rw [e] at R
      have hcv := conv_own R.own
      have HR := hide R
      clear R e
      obtain ⟨av, cap, rfl⟩ := own_shapeB HR.out.own
      go_wp2
      go_ret
      exact ⟨rfl, HR.out.low⟩
end Go.Proofs.YtdembcpljjgbkadDoor
