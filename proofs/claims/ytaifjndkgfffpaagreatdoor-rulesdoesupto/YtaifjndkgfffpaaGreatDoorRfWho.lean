/-
  The document's own turn: whom a word means: the contract.
-/
import Derived.Test.YtaifjndkgfffpaaGreatDoorMgQ
import Derived.Test.YtaifjndkgfffpaaGreatDoorMg4
namespace Go.Proofs.YtaifjndkgfffpaaGreatDoor
open Go.RowKit
set_option linter.unusedVariables false

theorem num_pos {l : List UInt8} {n : Nat} {name : List UInt8} {every : Bool} (h : nounL l = some (n, name, every)) : 1 ≤ n := by
  have kn : ∀ a : List UInt8, ∀ m, numL a = some m → 1 ≤ m := by
    intro a m hm
    match a with
    | [] => simp [numL] at hm
    | [x] =>
      simp only [numL] at hm
      split at hm
      · simp at hm; omega
      · simp at hm
    | [x, y] =>
      simp only [numL] at hm
      split at hm
      · simp at hm; omega
      · simp at hm
    | x :: y :: z :: r => simp [numL] at hm
  have key : ∀ a b : List UInt8, nounT a b = some (n, name, every) → 1 ≤ n := by
    intro a b hh
    unfold nounT at hh
    split at hh
    · simp at hh
    · split at hh
      · simp at hh; omega
      · cases hm : numL a with
        | none => rw [hm] at hh; simp at hh
        | some m => rw [hm] at hh; simp at hh; have := kn a m hm; omega
  unfold nounL at h
  split at h
  · simp at h; omega
  · split at h
    · exact key _ _ h
    · exact key _ _ h
theorem seen_pre (L : Ld) (b : Nat) (name : ByteArray) (k : Nat) : ∀ j, ∃ t, seenK L b name (k + j) = seenK L b name k ++ t
  | 0 => ⟨[], by simp⟩
  | j + 1 => by
    obtain ⟨t, ht⟩ := seen_pre L b name k j
    cases hp : seenP L b name (k + j) with
    | true => exact ⟨t ++ [((k + j : Nat) : Int)], by rw [show k + (j + 1) = (k + j) + 1 by omega, seen_yes hp, ht, List.append_assoc]⟩
    | false => exact ⟨t, by rw [show k + (j + 1) = (k + j) + 1 by omega, seen_no hp, ht]⟩
theorem seen_found {L : Ld} {b k : Nat} {name : ByteArray} {n : Int} (hk : k < 6) (hp : seenP L b name k = true) (hn : n = ((seenK L b name k).length : Int) + 1) : (nthL (seenK L b name 6) n).head? = some (k : Int) := by
  obtain ⟨t, ht⟩ := seen_pre L b name (k + 1) (6 - (k + 1))
  rw [show k + 1 + (6 - (k + 1)) = 6 by omega, seen_yes hp] at ht
  rw [ht]
  generalize seenK L b name k = F at *
  unfold nthL
  rw [if_neg (by simp; omega)]
  have : (n - 1).toNat = F.length := by omega
  rw [this]
  simp [List.getD]
theorem seen_short {L : Ld} {b : Nat} {name : ByteArray} {n : Int} (hn : ((seenK L b name 6).length : Int) < n) : (nthL (seenK L b name 6) n).head? = none := by
  unfold nthL; rw [if_pos (.inr hn)]; rfl

set_option maxRecDepth 100000 in
set_option maxHeartbeats 8000000 in
theorem personof_any {w0 : World} {L : Ld} {Es : List Ev} {w : World} {b : Nat} (hS : Sn 52 [.int .i64 (b : Int)] w0 L Es w) (hb : b < 6) (word : ByteArray) (hs : word.size ≤ 8796093022207) (hlen : Es.length ≤ 1000000) :
    Calls Tryz.prog 17 #[.pointer (some ⟨w0.heap.size, 0, none⟩), .string word] w fun e w' =>
      (∃ c, whoL L b word = some c ∧ e = .returned (.int .i64 (c : Int)) ∧ Sn 52 [.int .i64 (b : Int)] w0 L Es w' ∧ Stp w0.heap.size 166 w w') ∨
      (whoL L b word = none ∧ e = .returned (.int .i64 (-1)) ∧ Sn 52 [.int .i64 (b : Int)] w0 L (Es ++ [tellE L b nobodyS]) w' ∧ Stp w0.heap.size 166 w w') := by
  have hbi : (b : Int) < 6 := by omega
  go_enter Tryz.func17, Tryz.ntmps17
  go_wp2_with fail
  refine (refnoun_any word _ hs).mono ?_
  rintro e w1 ⟨rfl, hb1⟩
  have S1 := hide (hS.below hb1)
  have T1 := hide (hS.stp hb1 166)
  clear hb1 hS
  cases hx : nounL word.data.toList with
  | none =>
    have HV := hide (show whoL L b word = none by unfold whoL; rw [hx])
    clear hx
    unfold nounA
    simp only
    go_wp2_with fail
    go_loopw [17] (fun c wr => ∃ k : Nat, k ≤ 6 ∧ c = .int .i64 k ∧ Sn 52 [.int .i64 (b : Int)] w0 L Es wr ∧ Stp w0.heap.size 166 w wr) (fun c _ => 6 - (intOf c).toNat)
    case atStart => exact ⟨0, by omega, rfl, S1.out, T1.out⟩
    case round =>
      obtain ⟨k, hle, rfl, Rh, Th⟩ := hrel
      have R := hide Rh
      have TT := hide Th
      clear Rh Th S1 T1
      by_cases hk : k < 6
      · have hki : (k : Int) < 6 := by omega
        go_wp2_with fail
        go_quiet (fail)
        go_wp2
        go_roundw
        case rel => exact ⟨k + 1, by omega, by go_num, R.out.drewN _, TT.out.trans (R.out.stp (below_drewN (Below.refl _ _) _) 166)⟩
        case measure => simp [intOf]; omega
      · have hk6 : k = 6 := by omega
        subst hk6
        go_wp2_with fail
        refine (ttell_any R.out hb _ hlen).mono ?_
        rintro e wt ⟨rfl, Sth, Tth⟩
        have St := hide Sth
        have Tt := hide (TT.out.trans Tth)
        clear Sth Tth R TT
        go_wp2
        go_ret
        exact .inr ⟨HV.out, rfl, St.out, Tt.out⟩
  | some rr =>
    obtain ⟨n, name, every⟩ := rr
    have hn99 := num_of hx
    have hn1 := num_pos hx
    cases every with
    | true =>
      have HV := hide (show whoL L b word = none by unfold whoL; rw [hx]; rfl)
      clear hx
      unfold nounA
      simp only
      go_wp2_with fail
      go_loopw [17] (fun c wr => ∃ k : Nat, k ≤ 6 ∧ c = .int .i64 k ∧ Sn 52 [.int .i64 (b : Int)] w0 L Es wr ∧ Stp w0.heap.size 166 w wr) (fun c _ => 6 - (intOf c).toNat)
      case atStart => exact ⟨0, by omega, rfl, S1.out, T1.out⟩
      case round =>
        obtain ⟨k, hle, rfl, Rh, Th⟩ := hrel
        have R := hide Rh
        have TT := hide Th
        clear Rh Th S1 T1
        by_cases hk : k < 6
        · have hki : (k : Int) < 6 := by omega
          go_wp2_with fail
          go_quiet (fail)
          go_wp2
          go_roundw
          case rel => exact ⟨k + 1, by omega, by go_num, R.out.drewN _, TT.out.trans (R.out.stp (below_drewN (Below.refl _ _) _) 166)⟩
          case measure => simp [intOf]; omega
        · have hk6 : k = 6 := by omega
          subst hk6
          go_wp2_with fail
          refine (ttell_any R.out hb _ hlen).mono ?_
          rintro e wt ⟨rfl, Sth, Tth⟩
          have St := hide Sth
          have Tt := hide (TT.out.trans Tth)
          clear Sth Tth R TT
          go_wp2
          go_ret
          exact .inr ⟨HV.out, rfl, St.out, Tt.out⟩
    | false =>
      have HW := hide (show whoL L b word = (nthL (seenK L b (bs name) 6) (n : Int)).head?.map Int.toNat by unfold whoL; rw [hx]; rfl)
      clear hx
      unfold nounA
      simp only
      generalize bs name = nm at HW ⊢
      go_wp2_with fail
      go_loopw [5, 17] (fun mv c wr => ∃ k : Nat, k ≤ 6 ∧ c = .int .i64 k ∧ ∃ m : Int, mv = .int .i64 m ∧ (m + ((seenK L b nm k).length : Int) = (n : Int) ∧ 1 ≤ m) ∧ Sn 52 [.int .i64 (b : Int)] w0 L Es wr ∧ Stp w0.heap.size 166 w wr) (fun _ c _ => 6 - (intOf c).toNat)
      case atStart => exact ⟨0, by omega, rfl, _, rfl, ⟨by simp [seenK], by omega⟩, S1.out, T1.out⟩
      case round =>
        obtain ⟨k, hle, rfl, m, rfl, hm, Rh, Th⟩ := hrel
        have HMM := hide hm
        have hm1 : 1 ≤ m := hm.2
        have hm9 : m ≤ 99 := by have := hm.1; omega
        have R := hide Rh
        have TT := hide Th
        clear Rh Th S1 T1 hm
        by_cases hk : k < 6
        · have hki : (k : Int) < 6 := by omega
          have cb : wr.cell? ⟨w0.heap.size, 165, none⟩ = some (.int .i64 (b : Int)) := R.out.fore 0 (by simp)
          by_cases hkb : k = b
          · have he : ((k : Int) == (b : Int)) = true := by simp [hkb]
            have HN := hide (seen_no (L := L) (b := b) (k := k) (name := nm) (by unfold seenP seesO; simp [hkb]))
            clear hkb
            go_wp2_with fail
            go_quiet (fail)
            go_wp2
            go_roundw
            case rel => exact ⟨k + 1, by omega, by go_num, m, rfl, by rw [HN.out]; exact HMM.out, R.out.drewN _, TT.out.trans (R.out.stp (below_drewN (Below.refl _ _) _) 166)⟩
            case measure => simp [intOf]; omega
          · have he : ((k : Int) == (b : Int)) = false := by simp; omega
            have HSO := hide (show seesO L b k = seesL L (b : Int) (k : Int) by simp [seesO, hkb])
            have c0 := R.out.being k 0 hk (by omega)
            simp only [Nat.add_zero, Ld.beingCell] at c0
            clear hkb
            cases hy : decide (L.bname k = nm) with
            | false =>
              have hyl : ((L.bname k).toList == nm.toList) = false := by rw [toList_eq]; exact hy
              have HN := hide (seen_no (L := L) (b := b) (k := k) (name := nm) (by unfold seenP; rw [hy]; rfl))
              clear hy
              go_wp2_with fail
              go_quiet (fail)
              go_wp2
              go_roundw
              case rel => exact ⟨k + 1, by omega, by go_num, m, rfl, by rw [HN.out]; exact HMM.out, R.out.drewN _, TT.out.trans (R.out.stp (below_drewN (Below.refl _ _) _) 166)⟩
              case measure => simp [intOf]; omega
            | true =>
              have hyl : ((L.bname k).toList == nm.toList) = true := by rw [toList_eq]; exact hy
              have HY := hide hy
              have HS := R.out.drew
              have T1 : Hid (Stp w0.heap.size 166 w wr.drew) := TT.out.trans (R.out.stp (below_drewN (Below.refl _ _) 1) 166)
              clear hy R TT cb c0
              go_wp2_with fail
              refine wp_region_held (S := fun W => Sn 52 [.int .i64 (b : Int)] w0 L Es W) (by kernel_rfl) ?_
              change wpAnyH _ _ _ _ _ _ _ _ wr.drew
              generalize wr.drew = W1 at HS T1 ⊢
              refine tw (i := 0) (d := some 20) (fuel := 37) (v := ?_) rfl rfl ?_ HS ?_
              rotate_left
              · intro W hW; go_simp; try with_reducible rfl
              simp only [Act.put, sT, List.set]
              refine tw (i := 1) (d := some 21) (fuel := 36) (v := ?_) rfl rfl ?_ HS ?_
              rotate_left
              · intro W hW; go_simp; try with_reducible rfl
              simp only [Act.put, sT, List.set]
              refine tw (i := 2) (d := some 22) (fuel := 35) (v := ?_) rfl rfl ?_ HS ?_
              rotate_left
              · intro W hW; go_simp; try with_reducible rfl
              simp only [Act.put, sT, List.set]
              refine tw (i := 3) (d := some 23) (fuel := 34) (v := ?_) rfl rfl ?_ HS ?_
              rotate_left
              · intro W hW; go_simp; try with_reducible rfl
              simp only [Act.put, sT, List.set]
              refine tw (i := 4) (d := some 24) (fuel := 33) (v := ?_) rfl rfl ?_ HS ?_
              rotate_left
              · intro W hW; go_simp; try with_reducible rfl
              simp only [Act.put, sT, List.set]
              refine tw (i := 5) (d := some 25) (fuel := 32) (v := ?_) rfl rfl ?_ HS ?_
              rotate_left
              · intro W hW; go_simp; try with_reducible rfl
              simp only [Act.put, sT, List.set]
              refine tw (i := 6) (d := some 26) (fuel := 31) (v := ?_) rfl rfl ?_ HS ?_
              rotate_left
              · intro W hW; go_simp; try with_reducible rfl
              simp only [Act.put, sT, List.set]
              refine tw (i := 7) (d := some 27) (fuel := 30) (v := ?_) rfl rfl ?_ HS ?_
              rotate_left
              · intro W hW; go_simp; try with_reducible rfl
              simp only [Act.put, sT, List.set]
              refine tw (i := 8) (d := some 28) (fuel := 29) (v := ?_) rfl rfl ?_ HS ?_
              rotate_left
              · intro W hW; go_simp; try with_reducible rfl
              simp only [Act.put, sT, List.set]
              refine tw (i := 9) (d := some 29) (fuel := 28) (v := ?_) rfl rfl ?_ HS ?_
              rotate_left
              · intro W hW; go_simp; try with_reducible rfl
              simp only [Act.put, sT, List.set]
              refine tw (i := 10) (d := some 30) (fuel := 27) (v := ?_) rfl rfl ?_ HS ?_
              rotate_left
              · intro W hW
                have hcb := hW.fore 0 (by simp)
                simp only [Nat.add_zero, List.getElem_cons_zero] at hcb
                go_simp
                try with_reducible rfl
              simp only [Act.put, sT, List.set]
              refine tw (i := 11) (d := some 31) (fuel := 26) (v := ?_) rfl rfl ?_ HS ?_
              rotate_left
              · intro W hW; go_simp; try with_reducible rfl
              simp only [Act.put, sT, List.set]
              refine tw (i := 12) (d := some 32) (fuel := 25) (v := ?_) rfl rfl ?_ HS ?_
              rotate_left
              · intro W hW; go_simp; try with_reducible rfl
              simp only [Act.put, sT, List.set]
              refine tw (i := 13) (d := some 33) (fuel := 24) (v := ?_) rfl rfl ?_ HS ?_
              rotate_left
              · intro W hW; go_simp; try with_reducible rfl
              simp only [Act.put, sT, List.set]
              refine tw (i := 14) (d := some 34) (fuel := 23) (v := ?_) rfl rfl ?_ HS ?_
              rotate_left
              · intro W hW; go_simp; try with_reducible rfl
              simp only [Act.put, sT, List.set]
              refine tw (i := 15) (d := some 35) (fuel := 22) (v := ?_) rfl rfl ?_ HS ?_
              rotate_left
              · intro W hW; go_simp; try with_reducible rfl
              simp only [Act.put, sT, List.set]
              refine tw (i := 16) (d := some 36) (fuel := 21) (v := ?_) rfl rfl ?_ HS ?_
              rotate_left
              · intro W hW; go_simp; try with_reducible rfl
              simp only [Act.put, sT, List.set]
              refine tw (i := 17) (d := some 37) (fuel := 20) (v := ?_) rfl rfl ?_ HS ?_
              rotate_left
              · intro W hW; go_simp; try with_reducible rfl
              simp only [Act.put, sT, List.set]
              refine tw (i := 18) (d := some 38) (fuel := 19) (v := ?_) rfl rfl ?_ HS ?_
              rotate_left
              · intro W hW; go_simp; try with_reducible rfl
              simp only [Act.put, sT, List.set]
              refine tw (i := 19) (d := some 39) (fuel := 18) (v := ?_) rfl rfl ?_ HS ?_
              rotate_left
              · intro W hW; go_simp; try with_reducible rfl
              simp only [Act.put, sT, List.set]
              refine tw (i := 20) (d := some 40) (fuel := 17) (v := ?_) rfl rfl ?_ HS ?_
              rotate_left
              · intro W hW; go_simp; try with_reducible rfl
              simp only [Act.put, sT, List.set]
              refine tw (i := 21) (d := some 41) (fuel := 16) (v := ?_) rfl rfl ?_ HS ?_
              rotate_left
              · intro W hW
                have c0 := hW.being k 0 hk (by omega)
                simp only [Nat.add_zero, Ld.beingCell] at c0
                go_simp
                try with_reducible rfl
              simp only [Act.put, sT, List.set]
              refine tw (i := 22) (d := some 42) (fuel := 15) (v := ?_) rfl rfl ?_ HS ?_
              rotate_left
              · intro W hW; go_simp; try with_reducible rfl
              simp only [Act.put, sT, List.set]
              refine tw (i := 23) (d := some 43) (fuel := 14) (v := ?_) rfl rfl ?_ HS ?_
              rotate_left
              · intro W hW; go_simp; try with_reducible rfl
              simp only [Act.put, sT, List.set]
              refine tw (i := 24) (d := some 44) (fuel := 13) (v := ?_) rfl rfl ?_ HS ?_
              rotate_left
              · intro W hW; go_simp; try with_reducible rfl
              simp only [Act.put, sT, List.set]
              refine tw (i := 25) (d := some 45) (fuel := 12) (v := ?_) rfl rfl ?_ HS ?_
              rotate_left
              · intro W hW; go_simp; try with_reducible rfl
              simp only [Act.put, sT, List.set]
              refine tw (i := 26) (d := some 46) (fuel := 11) (v := ?_) rfl rfl ?_ HS ?_
              rotate_left
              · intro W hW; go_simp; try with_reducible rfl
              simp only [Act.put, sT, List.set]
              refine tw (i := 27) (d := some 47) (fuel := 10) (v := ?_) rfl rfl ?_ HS ?_
              rotate_left
              · intro W hW; go_simp; try with_reducible rfl
              simp only [Act.put, sT, List.set]
              refine tw (i := 28) (d := some 48) (fuel := 9) (v := ?_) rfl rfl ?_ HS ?_
              rotate_left
              · intro W hW; go_simp; try with_reducible rfl
              simp only [Act.put, sT, List.set]
              refine tk (i := 29) (d := some 49) (fuel := 8) (v := .agg L.cells) rfl rfl (Or.inl ⟨by rfl, fun W hW => exec_scene (.tmp 48) rfl rfl hW⟩) HS ?_
              simp only [Act.put, sT, List.set]
              refine tw (i := 30) (d := some 50) (fuel := 7) (v := ?_) rfl rfl ?_ HS ?_
              rotate_left
              · intro W hW; go_simp; try with_reducible rfl
              simp only [Act.put, sT, List.set]
              refine tw (i := 31) (d := some 51) (fuel := 6) (v := ?_) rfl rfl ?_ HS ?_
              rotate_left
              · intro W hW; go_simp; try with_reducible rfl
              simp only [Act.put, sT, List.set]
              refine tw (i := 32) (d := some 52) (fuel := 5) (v := ?_) rfl rfl ?_ HS ?_
              rotate_left
              · intro W hW; go_simp; try with_reducible rfl
              simp only [Act.put, sT, List.set]
              refine tw (i := 33) (d := some 53) (fuel := 4) (v := ?_) rfl rfl ?_ HS ?_
              rotate_left
              · intro W hW
                have hcb := hW.fore 0 (by simp)
                simp only [Nat.add_zero, List.getElem_cons_zero] at hcb
                go_simp
                try with_reducible rfl
              simp only [Act.put, sT, List.set]
              refine tw (i := 34) (d := some 54) (fuel := 3) (v := ?_) rfl rfl ?_ HS ?_
              rotate_left
              · intro W hW; go_simp; try with_reducible rfl
              simp only [Act.put, sT, List.set]
              refine wpAnyH_all (fuel := 2) (rs := [35]) (by kernel_rfl) (by simp) ?_
              intro i hi
              obtain rfl : i = 35 := by simpa using hi
              clear hi
              refine call_at (d := some 55) rfl rfl (by rfl) 50 #[.agg L.cells, .int .i64 (b : Int), .int .i64 (k : Int)] (by kernel_rfl) ?_
              refine (isseen_any L (b : Int) (k : Int) _).mono ?_
              rintro e y2 ⟨rfl, hb2⟩
              have S2 := HS.below hb2
              have T2 := hide (T1.out.trans (HS.stp hb2 166))
              clear hb2 HS T1
              refine ⟨_, rfl, S2, ?_⟩
              simp only [Act.put, sT, List.set]
              refine tw (i := 36) (d := some 56) (fuel := 1) (v := ?_) rfl rfl ?_ S2 ?_
              rotate_left
              · intro W hW; go_simp; try with_reducible rfl
              simp only [Act.put, sT, List.set]
              refine tw (i := 37) (d := some 57) (fuel := 0) (v := ?_) rfl rfl ?_ S2 ?_
              rotate_left
              · intro W hW; go_simp; try with_reducible rfl
              simp only [Act.put, sT, List.set]
              refine wpAnyH_done (by kernel_rfl) ?_ _
              have R2 := hide S2
              clear S2
              cases hx : seesL L (b : Int) (k : Int) with
              | false =>
                have HN := hide (seen_no (L := L) (b := b) (k := k) (name := nm) (by unfold seenP; rw [HSO.out, hx, Bool.and_false]))
                clear hx
                go_wp2
                go_roundw
                case rel => exact ⟨k + 1, by omega, by go_num, m, rfl, by rw [HN.out]; exact HMM.out, R2.out, T2.out⟩
                case measure => simp [intOf]; omega
              | true =>
                have HP := hide (show seenP L b nm k = true by unfold seenP; rw [HSO.out, hx, HY.out]; rfl)
                have HN := hide (seen_yes HP.out)
                clear hx
                cases hm : (m == 1) with
                | true =>
                  have HV := hide (show whoL L b word = some k by
                    rw [HW.out, seen_found hk HP.out (by have h1 := HMM.out.1; have : m = 1 := by simpa using hm
                                                         omega)]
                    simp)
                  go_wp2
                  go_ret
                  exact .inl ⟨k, HV.out, rfl, R2.out, T2.out⟩
                | false =>
                  have hm2 : 2 ≤ m := by have : m ≠ 1 := by simpa using hm
                                         omega
                  have HM2 := hide (show (m - 1) + ((seenK L b nm (k + 1)).length : Int) = (n : Int) ∧ 1 ≤ m - 1 by
                    rw [HN.out]
                    have h1 := HMM.out.1
                    simp only [List.length_append, List.length_singleton, Int.natCast_add, Int.natCast_one]
                    omega)
                  go_wp2
                  go_roundw
                  case rel => exact ⟨k + 1, by omega, by go_num, m - 1, rfl, HM2.out, R2.out, T2.out⟩
                  case measure => simp [intOf]; omega
        · have hk6 : k = 6 := by omega
          subst hk6
          have HV := hide (show whoL L b word = none by rw [HW.out, seen_short (by have := HMM.out; omega)]; rfl)
          go_wp2_with fail
          refine (ttell_any R.out hb _ hlen).mono ?_
          rintro e wt ⟨rfl, Sth, Tth⟩
          have St := hide Sth
          have Tt := hide (TT.out.trans Tth)
          clear Sth Tth R TT
          go_wp2
          go_ret
          exact .inr ⟨HV.out, rfl, St.out, Tt.out⟩
end Go.Proofs.YtaifjndkgfffpaaGreatDoor
