/-
  The document's own turn: what lies in its sight; things' names, one behind another: contracts.
-/
import Derived.Test.YtaifjndkgfffpaaDoorRfHas
import Derived.Test.YtaifjndkgfffpaaDoorMgE
namespace Go.Proofs.YtaifjndkgfffpaaDoor
open Go.RowKit
set_option linter.unusedVariables false

section
variable {w0 : World} {L : Ld} {Es : List Ev} {w : World} {b : Nat}
set_option maxRecDepth 100000 in
set_option maxHeartbeats 2000000 in
theorem insight_any (hS : Sn 66 [.int .i64 (b : Int)] w0 L Es w) (hb : b < 6) :
    Calls Tryd.prog 49 #[.pointer (some ⟨w0.heap.size, 0, none⟩)] w fun e w' => ∃ v, e = .returned v ∧ OwnI w.heap.size w' v (sightL L b) ∧ Below w.heap.size w w' := by
  have HS0 := hide hS
  clear hS
  go_enter Tryd.func49, Tryd.ntmps49
  go_wp2_with fail
  refine wp_region_held (S := fun W => Sn 66 [.int .i64 (b : Int)] w0 L Es W ∧ Below w.heap.size w W) (by kernel_rfl) ?_
  have HS : Sn 66 [.int .i64 (b : Int)] w0 L Es w.drew ∧ Below w.heap.size w w.drew := ⟨HS0.out.drew, (Below.refl _ _).drew⟩
  clear HS0
  change wpAnyH _ _ _ _ _ _ _ _ w.drew
  generalize w.drew = W0 at HS ⊢
  refine take_at (i := 0) (d := some 3) (fuel := 7) (v := ?_) rfl rfl (by kernel_rfl) (by kernel_rfl) (by kernel_rfl) (fun _ _ _ h => h) (Or.inl ⟨by rfl, ?_⟩) HS ?_
  rotate_left
  · intro W hW
    go_simp
    try with_reducible rfl
  simp only [Act.put, List.setIfInBounds_toArray, List.set]
  refine take_at (i := 1) (d := some 4) (fuel := 6) (v := ?_) rfl rfl (by kernel_rfl) (by kernel_rfl) (by kernel_rfl) (fun _ _ _ h => h) (Or.inl ⟨by rfl, ?_⟩) HS ?_
  rotate_left
  · intro W hW
    go_simp
    try with_reducible rfl
  simp only [Act.put, List.setIfInBounds_toArray, List.set]
  refine take_at (i := 2) (d := some 5) (fuel := 5) (v := ?_) rfl rfl (by kernel_rfl) (by kernel_rfl) (by kernel_rfl) (fun _ _ _ h => h) (Or.inl ⟨by rfl, ?_⟩) HS ?_
  rotate_left
  · intro W hW
    go_simp
    try with_reducible rfl
  simp only [Act.put, List.setIfInBounds_toArray, List.set]
  refine take_at (i := 3) (d := some 6) (fuel := 4) (v := .agg L.cells) rfl rfl (by kernel_rfl) (by kernel_rfl) (by kernel_rfl) (fun _ _ _ h => h) (Or.inl ⟨by rfl, fun W hW => exec_scene (.tmp 5) rfl rfl hW.1⟩) HS ?_
  simp only [Act.put, List.setIfInBounds_toArray, List.set]
  refine take_at (i := 4) (d := some 7) (fuel := 3) (v := ?_) rfl rfl (by kernel_rfl) (by kernel_rfl) (by kernel_rfl) (fun _ _ _ h => h) (Or.inl ⟨by rfl, ?_⟩) HS ?_
  rotate_left
  · intro W hW
    go_simp
    try with_reducible rfl
  simp only [Act.put, List.setIfInBounds_toArray, List.set]
  refine wpAnyH_all (fuel := 2) (rs := [5]) (by kernel_rfl) (by simp) ?_
  intro i hi
  obtain rfl : i = 5 := by simpa using hi
  clear hi
  refine call_at (d := some 8) rfl rfl (by rfl) 47 #[.pointer (some ⟨w0.heap.size, 0, none⟩)] (by kernel_rfl) ?_
  refine (there_any HS.1 hb).mono ?_
  rintro e x1 ⟨rfl, n1, hx1⟩
  have S1 : Sn 66 [.int .i64 (b : Int)] w0 L Es x1 ∧ Below w.heap.size w x1 := by rw [hx1]; exact ⟨HS.1.drewN n1, below_drewN HS.2 n1⟩
  clear hx1 HS
  refine ⟨_, rfl, S1, ?_⟩
  simp only [Act.put, List.setIfInBounds_toArray, List.set]
  refine wpAnyH_all (fuel := 1) (rs := [6]) (by kernel_rfl) (by simp) ?_
  intro i hi
  obtain rfl : i = 6 := by simpa using hi
  clear hi
  refine call_at (d := some 9) rfl rfl (by rfl) 46 #[.agg L.cells, .int .i64 (L.room b)] (by kernel_rfl) ?_
  refine (isbright_any L (L.room b) _).mono ?_
  rintro e x2 ⟨rfl, hb2⟩
  have S2 : Sn 66 [.int .i64 (b : Int)] w0 L Es x2 ∧ Below w.heap.size w x2 := ⟨S1.1.below hb2, S1.2.trans (hb2.mono S1.2.size)⟩
  clear hb2 S1
  refine ⟨_, rfl, S2, ?_⟩
  simp only [Act.put, List.setIfInBounds_toArray, List.set]
  refine take_at (i := 7) (d := some 10) (fuel := 0) (v := ?_) rfl rfl (by kernel_rfl) (by kernel_rfl) (by kernel_rfl) (fun _ _ _ h => h) (Or.inl ⟨by rfl, ?_⟩) S2 ?_
  rotate_left
  · intro W hW
    go_simp
    try with_reducible rfl
  simp only [Act.put, List.setIfInBounds_toArray, List.set]
  cases hx : brightL L (L.room b) with
  | false =>
    have HV := hide (show sightL L b = [] by unfold sightL; rw [if_neg (by simp [hx])])
    clear hx
    refine wpAnyH_done (by kernel_rfl) ?_ _
    go_wp2
    go_ret
    exact ⟨_, rfl, by rw [HV.out]; exact ownI_nil _ _, S2.2⟩
  | true =>
    have HV := hide (show sightL L b = hasK L 0 (L.room b) 9 by unfold sightL; rw [if_pos hx])
    clear hx
    refine wpAnyH_done (by kernel_rfl) ?_ _
    go_wp2_with fail
    refine wp_region_held (S := fun W => Sn 66 [.int .i64 (b : Int)] w0 L Es W ∧ Below w.heap.size w W) (by kernel_rfl) ?_
    have HS : Sn 66 [.int .i64 (b : Int)] w0 L Es x2.drew ∧ Below w.heap.size w x2.drew := ⟨S2.1.drew, S2.2.drew⟩
    clear S2
    change wpAnyH _ _ _ _ _ _ _ _ x2.drew
    generalize x2.drew = W0 at HS ⊢
    refine take_at (i := 0) (d := some 11) (fuel := 7) (v := ?_) rfl rfl (by kernel_rfl) (by kernel_rfl) (by kernel_rfl) (fun _ _ _ h => h) (Or.inl ⟨by rfl, ?_⟩) HS ?_
    rotate_left
    · intro W hW
      go_simp
      try with_reducible rfl
    simp only [Act.put, List.setIfInBounds_toArray, List.set]
    refine take_at (i := 1) (d := some 12) (fuel := 6) (v := ?_) rfl rfl (by kernel_rfl) (by kernel_rfl) (by kernel_rfl) (fun _ _ _ h => h) (Or.inl ⟨by rfl, ?_⟩) HS ?_
    rotate_left
    · intro W hW
      go_simp
      try with_reducible rfl
    simp only [Act.put, List.setIfInBounds_toArray, List.set]
    refine take_at (i := 2) (d := some 13) (fuel := 5) (v := ?_) rfl rfl (by kernel_rfl) (by kernel_rfl) (by kernel_rfl) (fun _ _ _ h => h) (Or.inl ⟨by rfl, ?_⟩) HS ?_
    rotate_left
    · intro W hW
      go_simp
      try with_reducible rfl
    simp only [Act.put, List.setIfInBounds_toArray, List.set]
    refine take_at (i := 3) (d := some 14) (fuel := 4) (v := .agg L.cells) rfl rfl (by kernel_rfl) (by kernel_rfl) (by kernel_rfl) (fun _ _ _ h => h) (Or.inl ⟨by rfl, fun W hW => exec_scene (.tmp 13) rfl rfl hW.1⟩) HS ?_
    simp only [Act.put, List.setIfInBounds_toArray, List.set]
    refine take_at (i := 4) (d := some 15) (fuel := 3) (v := ?_) rfl rfl (by kernel_rfl) (by kernel_rfl) (by kernel_rfl) (fun _ _ _ h => h) (Or.inl ⟨by rfl, ?_⟩) HS ?_
    rotate_left
    · intro W hW
      go_simp
      try with_reducible rfl
    simp only [Act.put, List.setIfInBounds_toArray, List.set]
    refine wpAnyH_all (fuel := 2) (rs := [5]) (by kernel_rfl) (by simp) ?_
    intro i hi
    obtain rfl : i = 5 := by simpa using hi
    clear hi
    refine call_at (d := some 16) rfl rfl (by rfl) 47 #[.pointer (some ⟨w0.heap.size, 0, none⟩)] (by kernel_rfl) ?_
    refine (there_any HS.1 hb).mono ?_
    rintro e x1 ⟨rfl, n1, hx1⟩
    have S1 : Sn 66 [.int .i64 (b : Int)] w0 L Es x1 ∧ Below w.heap.size w x1 := by rw [hx1]; exact ⟨HS.1.drewN n1, below_drewN HS.2 n1⟩
    clear hx1 HS
    refine ⟨_, rfl, S1, ?_⟩
    simp only [Act.put, List.setIfInBounds_toArray, List.set]
    refine wpAnyH_all (fuel := 1) (rs := [6]) (by kernel_rfl) (by simp) ?_
    intro i hi
    obtain rfl : i = 6 := by simpa using hi
    clear hi
    refine call_at (d := some 17) rfl rfl (by rfl) 82 #[.agg L.cells, .int .i64 0, .int .i64 (L.room b)] (by kernel_rfl) ?_
    refine (hasat_own L 0 (L.room b) _).mono ?_
    rintro e x2 ⟨v, rfl, ho, hb2⟩
    have S2 : Sn 66 [.int .i64 (b : Int)] w0 L Es x2 ∧ Below w.heap.size w x2 := ⟨S1.1.below hb2, S1.2.trans (hb2.mono S1.2.size)⟩
    have A := hide (OwnI.base (show OwnI _ _ _ _ from ho) (show w.heap.size ≤ x1.heap.size + 1 by have := S1.2.size; omega))
    have B := hide S2.2
    obtain ⟨av, cap, rfl⟩ := own_shapeN ho
    clear ho hb2 S1
    refine ⟨_, rfl, S2, ?_⟩
    simp only [Act.put, List.setIfInBounds_toArray, List.set]
    refine take_at (i := 7) (d := some 2) (fuel := 0) (v := ?_) rfl rfl (by kernel_rfl) (by kernel_rfl) (by kernel_rfl) (fun _ _ _ h => h) (Or.inl ⟨by rfl, ?_⟩) S2 ?_
    rotate_left
    · intro W hW
      go_simp
      try with_reducible rfl
    simp only [Act.put, List.setIfInBounds_toArray, List.set]
    refine wpAnyH_done (by kernel_rfl) ?_ _
    go_wp2
    go_ret
    exact ⟨_, rfl, by rw [HV.out]; exact A.out, B.out⟩

set_option maxRecDepth 100000 in
set_option maxHeartbeats 2000000 in
theorem tnamed_any (hS : Sn 66 [.int .i64 (b : Int)] w0 L Es w) (hf : Fine L) {v : Value} {q : List Int} (hN : NumK w0.heap.size 166 w v q) (hq : ∀ x ∈ q, ∃ i : Nat, x = (i : Int) ∧ i < 9) (hlen : q.length ≤ 18) :
    Calls Tryd.prog 50 #[.pointer (some ⟨w0.heap.size, 0, none⟩), v] w fun e w' => e = .returned (.string (listedT L q)) ∧ Below w.heap.size w w' := by
  have HS := hide hS
  have HN := hide hN
  have HQ := hide hq
  have HF := hide hf
  obtain ⟨av, cap, rfl⟩ := hN.shape
  clear hS hN hq hf
  generalize hn : q.length = n at *
  have HNn := hide hn
  clear hn
  go_enter Tryd.func50, Tryd.ntmps50
  go_wp2_with fail
  go_loopw [5, 10] (fun t c wr => ∃ k : Nat, k ≤ n ∧ c = .int .i64 k ∧ t = .string (namesK L (q.take k)) ∧ wr = w) (fun _ c _ => n - (intOf c).toNat)
  case atStart => exact ⟨0, by omega, rfl, rfl, rfl⟩
  case round =>
    obtain ⟨k, hle, rfl, rfl, hwr⟩ := hrel
    rw [hwr]
    clear hwr
    by_cases hk : k < n
    · have hkq : k < q.length := by rw [HNn.out]; exact hk
      obtain ⟨bq, off, cap', e, hcell⟩ := HN.out.cell hkq
      rw [HNn.out] at e
      injection e with e1 e2 e3
      subst e1 e3
      obtain ⟨i, ei, hi⟩ := HQ.out _ (getD_mem hkq)
      have HT := hide (show namesK L (q.take (k + 1)) = namesK L (q.take k) ++ (⟨#[32]⟩ ++ L.tname i ++ starT (L.on i)) by rw [take_snoc hkq, names_snoc, ei]; rfl)
      rw [ei] at hcell
      have c0 := HS.out.thing i 0 hi (by omega)
      have c4 := HS.out.thing i 4 hi (by omega)
      simp only [Nat.add_zero, Ld.thingCell] at c0 c4
      have hci : (i : Int) < 9 := by omega
      have hs0 : (namesK L (q.take k)).size ≤ 20000000 := by
        have := names_size HF.out (q.take k) (fun x hx => HQ.out x (List.mem_of_mem_take hx))
        have h2 : (q.take k).length ≤ 18 := by simp; omega
        have : (q.take k).length * 1048578 ≤ 18 * 1048578 := Nat.mul_le_mul_right _ h2
        omega
      have hs1 := HF.out.tname i hi
      have hs4 : (⟨#[32]⟩ : ByteArray).size = 1 := rfl
      have hs5 : (⟨#[42]⟩ : ByteArray).size = 1 := rfl
      clear ei
      cases h4 : L.on i with
      | true =>
        have HT2 := hide (show namesK L (q.take (k + 1)) = (namesK L (q.take k) ++ (⟨#[32]⟩ ++ L.tname i)) ++ ⟨#[42]⟩ by rw [HT.out, h4]; simp only [starT, if_true, ByteArray.append_assoc])
        rw [h4] at c4
        clear h4
        generalize namesK L (q.take k) = A at *
        go_wp2
        go_roundw
        case rel => exact ⟨k + 1, by omega, by go_num, by rw [HT2.out], by first | rfl | trivial⟩
        case measure => simp [intOf]; omega
      | false =>
        have HT2 := hide (show namesK L (q.take (k + 1)) = namesK L (q.take k) ++ (⟨#[32]⟩ ++ L.tname i) by rw [HT.out, h4]; show _ ++ (_ ++ (⟨#[]⟩ : ByteArray)) = _; rw [ba_nil_r])
        rw [h4] at c4
        clear h4
        generalize namesK L (q.take k) = A at *
        go_wp2
        go_roundw
        case rel => exact ⟨k + 1, by omega, by go_num, by rw [HT2.out], by first | rfl | trivial⟩
        case measure => simp [intOf]; omega
    · have hkn : k = n := by omega
      subst hkn
      have hall : q.take k = q := by rw [← HNn.out]; exact List.take_length
      rw [hall]
      have hs0 : (namesK L q).size ≤ 20000000 := by
        have := names_size HF.out q HQ.out
        have : q.length * 1048578 ≤ 18 * 1048578 := Nat.mul_le_mul_right _ (by rw [HNn.out]; exact hlen)
        omega
      by_cases h0 : q = []
      · have HV := hide (show listedT L q = ⟨#[32, 110, 111, 116, 104, 105, 110, 103, 46]⟩ by unfold listedT; rw [if_pos h0]; rfl)
        have he : (namesK L q).toList.isEmpty = true := by subst h0; rw [Lib.toList_data]; rfl
        clear h0 hall
        generalize namesK L q = A at *
        go_wp2
        go_ret
        exact ⟨ret_str HV.out.symm, Below.refl _ _⟩
      · have HV := hide (show listedT L q = namesK L q ++ ⟨#[46]⟩ by unfold listedT; rw [if_neg h0]; rfl)
        have he := names_some L h0
        clear h0 hall
        generalize namesK L q = A at *
        go_wp2
        go_ret
        exact ⟨ret_str HV.out.symm, Below.refl _ _⟩
end
end Go.Proofs.YtaifjndkgfffpaaDoor
