/-
  The document's own turn: where it is, what it has, what lies in its sight; telling: contracts.
-/
import Derived.Test.YtaifjndkgfffpaaGreatDoorRuTadd
import Derived.Test.YtaifjndkgfffpaaGreatDoorMgE
namespace Go.Proofs.YtaifjndkgfffpaaGreatDoor
open Go.RowKit
set_option linter.unusedVariables false
set_option maxRecDepth 100000 in
set_option maxHeartbeats 1000000 in
theorem hasat_own (L : Ld) (wh loc : Int) (w : World) :
    Calls Tryz.prog 52 #[.agg L.cells, .int .i64 wh, .int .i64 loc] w fun e w' => ∃ v, e = .returned v ∧ w'.ownsRow (w.heap.size + 1) 3 1 v (hasK L wh loc 9).length (icells (hasK L wh loc 9)) ∧ Below w.heap.size w w' := by
  obtain ⟨i0, hi0, hz0, hz1, hz2⟩ := info_parts Tryz.info3
  go_enter Tryz.func52, Tryz.ntmps52
  go_wp2_with fail
  go_loopw [7, 9] (fun v c wr => ∃ k : Nat, k ≤ 9 ∧ c = .int .i64 k ∧ HRel L w v (hasK L wh loc k) wr) (fun _ c _ => 9 - (intOf c).toNat)
  case atStart => exact ⟨0, by omega, rfl, World.ownsRow_nil _ _ _ _, gd_start L w, by simp⟩
  case round =>
    obtain ⟨k, hle, rfl, R⟩ := hrel
    obtain ⟨av, cap, rfl⟩ := own_shapeN R.own
    have HR := hide R
    clear R
    by_cases hk : k < 9
    · have hki : (k : Int) < 9 := by omega
      have c2 := HR.out.gd.cod.thing k 2 hk (by omega)
      have c3 := HR.out.gd.cod.thing k 3 hk (by omega)
      simp only [Ld.thingCell] at c2 c3
      cases h2 : decide (L.loc k = loc) with
      | false =>
        have e2 : (L.loc k == loc) = false := by simpa using h2
        have HN := hide (hasK_no (L := L) (wh := wh) (loc := loc) (k := k) (by simp [isAt, h2]))
        clear h2
        go_wp2
        go_roundw
        case rel => exact ⟨k + 1, by omega, by go_num, by rw [HN.out]; exact HR.out⟩
        case measure => simp [intOf]; omega
      | true =>
        have e2 : (L.loc k == loc) = true := by simpa using h2
        cases h1 : decide (L.wh k = wh) with
        | false =>
          have e1 : (L.wh k == wh) = false := by simpa using h1
          have HN := hide (hasK_no (L := L) (wh := wh) (loc := loc) (k := k) (by simp [isAt, h1]))
          clear h1 h2
          go_wp2
          go_roundw
          case rel => exact ⟨k + 1, by omega, by go_num, by rw [HN.out]; exact HR.out⟩
          case measure => simp [intOf]; omega
        | true =>
          have e1 : (L.wh k == wh) = true := by simpa using h1
          have HN := hide (hasK_yes (L := L) (wh := wh) (loc := loc) (k := k) (by simp [isAt, h1, h2]))
          have hlen := hasK_len L wh loc k
          have hsz := HR.out.size
          clear h1 h2
          generalize hasK L wh loc k = S at *
          go_wp2_with (at_builtin; refine wpList_append_own_at _ rfl (.tmp 28) (.tmp 30) 59 rfl (w.heap.size + 1) 3 i0 (.int .i64 0) 1 8 Tryz.underlying59 hi0 hz0 hz1 hz2 rfl (by decide) _ S.length (icells S) rfl (HR.out.own.alloc _) ⟨wr.heap.size, 0, none⟩ 1 1 [.int .i64 (k : Int)] rfl ?a1 ?a2 ?a3 ?a4 ?a5 ?a6 ?_)
          case a1 => rfl
          case a2 => exact cell_one_new _ _ _
          case a3 => intro u hu; simp at hu; subst hu; rfl
          case a4 => unfold maxLen; omega
          case a5 => omega
          case a6 => simp; omega
          intro v' w1 ho hg _ _
          have N := hide ((HR.out.box _).next ho hg)
          obtain ⟨av', cap', rfl⟩ := own_shapeN ho
          clear ho hg
          go_wp2
          go_roundw
          case rel => exact ⟨k + 1, by omega, by go_num, by rw [HN.out]; exact N.out⟩
          case measure => simp [intOf]; omega
    · have hk9 : k = 9 := by omega
      subst hk9
      go_wp2
      go_ret
      exact ⟨_, rfl, HR.out.own, HR.out.gd.low⟩

section
variable {w0 : World} {L : Ld} {Es : List Ev} {w : World} {b : Nat}
set_option maxHeartbeats 1000000 in
theorem there_any (hS : Sn 52 [.int .i64 (b : Int)] w0 L Es w) (hb : b < 6) :
    Calls Tryz.prog 47 #[.pointer (some ⟨w0.heap.size, 0, none⟩)] w fun e w' => e = .returned (.int .i64 (L.room b)) ∧ ∃ n, w' = w.drewN n := by
  have c3 := hS.being b 3 hb (by omega)
  have cb : w.cell? ⟨w0.heap.size, 165, none⟩ = some (.int .i64 (b : Int)) := hS.fore 0 (by simp)
  have hbi : (b : Int) < 6 := by omega
  simp only [Ld.beingCell] at c3
  clear hS
  go_enter Tryz.func47, Tryz.ntmps47
  go_wp2_with fail
  go_quiet (fail)
  go_wp2
  go_ret
  exact ⟨rfl, _, rfl⟩
set_option maxHeartbeats 1000000 in
theorem ttell_any (hS : Sn 52 [.int .i64 (b : Int)] w0 L Es w) (hb : b < 6) (text : ByteArray) (hlen : Es.length ≤ 1000000) :
    Calls Tryz.prog 18 #[.pointer (some ⟨w0.heap.size, 0, none⟩), .string text] w fun e w' => e = .returned (.tuple #[]) ∧ Sn 52 [.int .i64 (b : Int)] w0 L (Es ++ [tellE L b text]) w' ∧ Stp w0.heap.size 166 w w' := by
  go_enter Tryz.func18, Tryz.ntmps18
  go_wp2_with fail
  refine (tadd_none hS hb 16 0 0 ⟨#[]⟩ text hlen).mono ?_
  rintro e w1 ⟨rfl, S1, T1⟩
  have A := hide S1
  have B := hide T1
  clear S1 T1
  go_wp2
  go_end0
  exact ⟨rfl, A.out, B.out⟩
end
/-
  The document's own turn: what lies in its sight; things' names, one behind another: contracts.
-/
section
variable {w0 : World} {L : Ld} {Es : List Ev} {w : World} {b : Nat}
set_option maxRecDepth 100000 in
set_option maxHeartbeats 2000000 in
theorem insight_any (hS : Sn 52 [.int .i64 (b : Int)] w0 L Es w) (hb : b < 6) :
    Calls Tryz.prog 49 #[.pointer (some ⟨w0.heap.size, 0, none⟩)] w fun e w' => ∃ v, e = .returned v ∧ OwnI w.heap.size w' v (sightL L b) ∧ Below w.heap.size w w' := by
  have HS0 := hide hS
  clear hS
  go_enter Tryz.func49, Tryz.ntmps49
  go_wp2_with fail
  refine wp_region_held (S := fun W => Sn 52 [.int .i64 (b : Int)] w0 L Es W ∧ Below w.heap.size w W) (by kernel_rfl) ?_
  have HS : Sn 52 [.int .i64 (b : Int)] w0 L Es w.drew ∧ Below w.heap.size w w.drew := ⟨HS0.out.drew, (Below.refl _ _).drew⟩
  clear HS0
  change wpAnyH _ _ _ _ _ _ _ _ w.drew
  generalize w.drew = W0 at HS ⊢
  refine tw (i := 0) (d := some 3) (fuel := 7) (v := ?_) rfl rfl ?_ HS ?_
  rotate_left
  · intro W hW; go_simp; try with_reducible rfl
  simp only [Act.put, sT, List.set]
  refine tw (i := 1) (d := some 4) (fuel := 6) (v := ?_) rfl rfl ?_ HS ?_
  rotate_left
  · intro W hW; go_simp; try with_reducible rfl
  simp only [Act.put, sT, List.set]
  refine tw (i := 2) (d := some 5) (fuel := 5) (v := ?_) rfl rfl ?_ HS ?_
  rotate_left
  · intro W hW; go_simp; try with_reducible rfl
  simp only [Act.put, sT, List.set]
  refine tk (i := 3) (d := some 6) (fuel := 4) (v := .agg L.cells) rfl rfl (Or.inl ⟨by rfl, fun W hW => exec_scene (.tmp 5) rfl rfl hW.1⟩) HS ?_
  simp only [Act.put, sT, List.set]
  refine tw (i := 4) (d := some 7) (fuel := 3) (v := ?_) rfl rfl ?_ HS ?_
  rotate_left
  · intro W hW; go_simp; try with_reducible rfl
  simp only [Act.put, sT, List.set]
  refine wpAnyH_all (fuel := 2) (rs := [5]) (by kernel_rfl) (by simp) ?_
  intro i hi
  obtain rfl : i = 5 := by simpa using hi
  clear hi
  refine call_at (d := some 8) rfl rfl (by rfl) 47 #[.pointer (some ⟨w0.heap.size, 0, none⟩)] (by kernel_rfl) ?_
  refine (there_any HS.1 hb).mono ?_
  rintro e x1 ⟨rfl, n1, hx1⟩
  have S1 : Sn 52 [.int .i64 (b : Int)] w0 L Es x1 ∧ Below w.heap.size w x1 := by rw [hx1]; exact ⟨HS.1.drewN n1, below_drewN HS.2 n1⟩
  clear hx1 HS
  refine ⟨_, rfl, S1, ?_⟩
  simp only [Act.put, sT, List.set]
  refine wpAnyH_all (fuel := 1) (rs := [6]) (by kernel_rfl) (by simp) ?_
  intro i hi
  obtain rfl : i = 6 := by simpa using hi
  clear hi
  refine call_at (d := some 9) rfl rfl (by rfl) 48 #[.agg L.cells, .int .i64 (L.room b)] (by kernel_rfl) ?_
  refine (isbright_any L (L.room b) _).mono ?_
  rintro e x2 ⟨rfl, hb2⟩
  have S2 : Sn 52 [.int .i64 (b : Int)] w0 L Es x2 ∧ Below w.heap.size w x2 := ⟨S1.1.below hb2, S1.2.trans (hb2.mono S1.2.size)⟩
  clear hb2 S1
  refine ⟨_, rfl, S2, ?_⟩
  simp only [Act.put, sT, List.set]
  refine tw (i := 7) (d := some 10) (fuel := 0) (v := ?_) rfl rfl ?_ S2 ?_
  rotate_left
  · intro W hW; go_simp; try with_reducible rfl
  simp only [Act.put, sT, List.set]
  cases hx : brightL L (L.room b) with
  | false =>
    have HV := hide (show sightL L b = [] by unfold sightL; rw [if_neg (by simp [hx])])
    clear hx
    refine wpAnyH_done (by kernel_rfl) ?_ _
    go_wp2
    go_ret
    exact ⟨_, rfl, by rw [HV.out]; exact ownI_nil _ _, S2.2⟩
  | true =>
    have HV := hide (show sightL L b = hasK L 0 (L.room b) 9 by unfold sightL; rw [if_pos hx])
    clear hx
    refine wpAnyH_done (by kernel_rfl) ?_ _
    go_wp2_with fail
    refine wp_region_held (S := fun W => Sn 52 [.int .i64 (b : Int)] w0 L Es W ∧ Below w.heap.size w W) (by kernel_rfl) ?_
    have HS : Sn 52 [.int .i64 (b : Int)] w0 L Es x2.drew ∧ Below w.heap.size w x2.drew := ⟨S2.1.drew, S2.2.drew⟩
    clear S2
    change wpAnyH _ _ _ _ _ _ _ _ x2.drew
    generalize x2.drew = W0 at HS ⊢
    refine tw (i := 0) (d := some 11) (fuel := 7) (v := ?_) rfl rfl ?_ HS ?_
    rotate_left
    · intro W hW; go_simp; try with_reducible rfl
    simp only [Act.put, sT, List.set]
    refine tw (i := 1) (d := some 12) (fuel := 6) (v := ?_) rfl rfl ?_ HS ?_
    rotate_left
    · intro W hW; go_simp; try with_reducible rfl
    simp only [Act.put, sT, List.set]
    refine tw (i := 2) (d := some 13) (fuel := 5) (v := ?_) rfl rfl ?_ HS ?_
    rotate_left
    · intro W hW; go_simp; try with_reducible rfl
    simp only [Act.put, sT, List.set]
    refine tk (i := 3) (d := some 14) (fuel := 4) (v := .agg L.cells) rfl rfl (Or.inl ⟨by rfl, fun W hW => exec_scene (.tmp 13) rfl rfl hW.1⟩) HS ?_
    simp only [Act.put, sT, List.set]
    refine tw (i := 4) (d := some 15) (fuel := 3) (v := ?_) rfl rfl ?_ HS ?_
    rotate_left
    · intro W hW; go_simp; try with_reducible rfl
    simp only [Act.put, sT, List.set]
    refine wpAnyH_all (fuel := 2) (rs := [5]) (by kernel_rfl) (by simp) ?_
    intro i hi
    obtain rfl : i = 5 := by simpa using hi
    clear hi
    refine call_at (d := some 16) rfl rfl (by rfl) 47 #[.pointer (some ⟨w0.heap.size, 0, none⟩)] (by kernel_rfl) ?_
    refine (there_any HS.1 hb).mono ?_
    rintro e x1 ⟨rfl, n1, hx1⟩
    have S1 : Sn 52 [.int .i64 (b : Int)] w0 L Es x1 ∧ Below w.heap.size w x1 := by rw [hx1]; exact ⟨HS.1.drewN n1, below_drewN HS.2 n1⟩
    clear hx1 HS
    refine ⟨_, rfl, S1, ?_⟩
    simp only [Act.put, sT, List.set]
    refine wpAnyH_all (fuel := 1) (rs := [6]) (by kernel_rfl) (by simp) ?_
    intro i hi
    obtain rfl : i = 6 := by simpa using hi
    clear hi
    refine call_at (d := some 17) rfl rfl (by rfl) 52 #[.agg L.cells, .int .i64 0, .int .i64 (L.room b)] (by kernel_rfl) ?_
    refine (hasat_own L 0 (L.room b) _).mono ?_
    rintro e x2 ⟨v, rfl, ho, hb2⟩
    have S2 : Sn 52 [.int .i64 (b : Int)] w0 L Es x2 ∧ Below w.heap.size w x2 := ⟨S1.1.below hb2, S1.2.trans (hb2.mono S1.2.size)⟩
    have A := hide (OwnI.base (show OwnI _ _ _ _ from ho) (show w.heap.size ≤ x1.heap.size + 1 by have := S1.2.size; omega))
    have B := hide S2.2
    obtain ⟨av, cap, rfl⟩ := own_shapeN ho
    clear ho hb2 S1
    refine ⟨_, rfl, S2, ?_⟩
    simp only [Act.put, sT, List.set]
    refine tw (i := 7) (d := some 2) (fuel := 0) (v := ?_) rfl rfl ?_ S2 ?_
    rotate_left
    · intro W hW; go_simp; try with_reducible rfl
    simp only [Act.put, sT, List.set]
    refine wpAnyH_done (by kernel_rfl) ?_ _
    go_wp2
    go_ret
    exact ⟨_, rfl, by rw [HV.out]; exact A.out, B.out⟩

set_option maxRecDepth 100000 in
set_option maxHeartbeats 2000000 in
theorem tnamed_any (hS : Sn 52 [.int .i64 (b : Int)] w0 L Es w) (hf : Fine L) {v : Value} {q : List Int} (hN : NumK w0.heap.size 166 w v q) (hq : ∀ x ∈ q, ∃ i : Nat, x = (i : Int) ∧ i < 9) (hlen : q.length ≤ 18) :
    Calls Tryz.prog 19 #[.pointer (some ⟨w0.heap.size, 0, none⟩), v] w fun e w' => e = .returned (.string (listedT L q)) ∧ Below w.heap.size w w' := by
  have HS := hide hS
  have HN := hide hN
  have HQ := hide hq
  have HF := hide hf
  obtain ⟨av, cap, rfl⟩ := hN.shape
  clear hS hN hq hf
  generalize hn : q.length = n at *
  have HNn := hide hn
  clear hn
  go_enter Tryz.func19, Tryz.ntmps19
  go_wp2_with fail
  go_loopw [5, 10] (fun t c wr => ∃ k : Nat, k ≤ n ∧ c = .int .i64 k ∧ t = .string (namesK L (q.take k)) ∧ wr = w) (fun _ c _ => n - (intOf c).toNat)
  case atStart => exact ⟨0, by omega, rfl, rfl, rfl⟩
  case round =>
    obtain ⟨k, hle, rfl, rfl, hwr⟩ := hrel
    rw [hwr]
    clear hwr
    by_cases hk : k < n
    · have hkq : k < q.length := by rw [HNn.out]; exact hk
      obtain ⟨bq, off, cap', e, hcell⟩ := HN.out.cell hkq
      rw [HNn.out] at e
      injection e with e1 e2 e3
      subst e1 e3
      obtain ⟨i, ei, hi⟩ := HQ.out _ (getD_mem hkq)
      have HT := hide (show namesK L (q.take (k + 1)) = namesK L (q.take k) ++ (⟨#[32]⟩ ++ L.tname i ++ starT (L.on i)) by rw [take_snoc hkq, names_snoc, ei]; rfl)
      rw [ei] at hcell
      have c0 := HS.out.thing i 0 hi (by omega)
      have c4 := HS.out.thing i 4 hi (by omega)
      simp only [Nat.add_zero, Ld.thingCell] at c0 c4
      have hci : (i : Int) < 9 := by omega
      have hs0 : (namesK L (q.take k)).size ≤ 20000000 := by
        have := names_size HF.out (q.take k) (fun x hx => HQ.out x (List.mem_of_mem_take hx))
        have h2 : (q.take k).length ≤ 18 := by simp; omega
        have : (q.take k).length * 1048578 ≤ 18 * 1048578 := Nat.mul_le_mul_right _ h2
        omega
      have hs1 := HF.out.tname i hi
      have hs4 : (⟨#[32]⟩ : ByteArray).size = 1 := rfl
      have hs5 : (⟨#[42]⟩ : ByteArray).size = 1 := rfl
      clear ei
      cases h4 : L.on i with
      | true =>
        have HT2 := hide (show namesK L (q.take (k + 1)) = (namesK L (q.take k) ++ (⟨#[32]⟩ ++ L.tname i)) ++ ⟨#[42]⟩ by rw [HT.out, h4]; simp only [starT, if_true, ByteArray.append_assoc])
        rw [h4] at c4
        clear h4
        generalize namesK L (q.take k) = A at *
        go_wp2
        go_roundw
        case rel => exact ⟨k + 1, by omega, by go_num, by rw [HT2.out], by first | rfl | trivial⟩
        case measure => simp [intOf]; omega
      | false =>
        have HT2 := hide (show namesK L (q.take (k + 1)) = namesK L (q.take k) ++ (⟨#[32]⟩ ++ L.tname i) by rw [HT.out, h4]; show _ ++ (_ ++ (⟨#[]⟩ : ByteArray)) = _; rw [ba_nil_r])
        rw [h4] at c4
        clear h4
        generalize namesK L (q.take k) = A at *
        go_wp2
        go_roundw
        case rel => exact ⟨k + 1, by omega, by go_num, by rw [HT2.out], by first | rfl | trivial⟩
        case measure => simp [intOf]; omega
    · have hkn : k = n := by omega
      subst hkn
      have hall : q.take k = q := by rw [← HNn.out]; exact List.take_length
      rw [hall]
      have hs0 : (namesK L q).size ≤ 20000000 := by
        have := names_size HF.out q HQ.out
        have : q.length * 1048578 ≤ 18 * 1048578 := Nat.mul_le_mul_right _ (by rw [HNn.out]; exact hlen)
        omega
      by_cases h0 : q = []
      · have HV := hide (show listedT L q = ⟨#[32, 110, 111, 116, 104, 105, 110, 103, 46]⟩ by unfold listedT; rw [if_pos h0]; rfl)
        have he : (namesK L q).toList.isEmpty = true := by subst h0; rw [Lib.toList_data]; rfl
        clear h0 hall
        generalize namesK L q = A at *
        go_wp2
        go_ret
        exact ⟨ret_str HV.out.symm, Below.refl _ _⟩
      · have HV := hide (show listedT L q = namesK L q ++ ⟨#[46]⟩ by unfold listedT; rw [if_neg h0]; rfl)
        have he := names_some L h0
        clear h0 hall
        generalize namesK L q = A at *
        go_wp2
        go_ret
        exact ⟨ret_str HV.out.symm, Below.refl _ _⟩
end
end Go.Proofs.YtaifjndkgfffpaaGreatDoor
