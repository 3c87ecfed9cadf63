/-
  Which box a word means: the contract.
-/
import Derived.Test.YtaifjndkgfffpaaDoorMgBC
namespace Go.Proofs.YtaifjndkgfffpaaDoor
open Go.RowKit
set_option linter.unusedVariables false

/-- Which open box a word means to a being; else what it is told. -/
def boxL (L : Ld) (b : Nat) (word : ByteArray) : Option Nat × ByteArray := match nounL word.data.toList with
  | none => (none, noThingS)
  | some (n, name, every) => if every = true then (none, noThingS) else
    match meantL L (reachL L b) (n : Int) false (bs name) with
    | [] => (none, noThingS)
    | i :: _ => if L.kind i.toNat = 3 then (if L.on i.toNat = true then (some i.toNat, ⟨#[]⟩) else (none, shutS)) else (none, noThingS)
theorem reach_lt {L : Ld} {b : Nat} {x : Int} (h : x ∈ reachL L b) : ∃ i : Nat, x = (i : Int) ∧ i < 9 := by
  rcases List.mem_append.1 h with h | h
  · exact hand_lt h
  · exact sight_lt h
theorem reach_len (L : Ld) (b : Nat) : (reachL L b).length ≤ 18 := by
  have h1 := hand_len L b
  have h2 := sight_len L b
  unfold reachL
  simp only [List.length_append]; omega
theorem box_lt {L : Ld} {b i : Nat} {word : ByteArray} (h : (boxL L b word).1 = some i) : i < 9 ∧ (i : Int) ∈ reachL L b ∧ L.kind i = 3 ∧ L.on i = true := by
  unfold boxL at h
  split at h
  · simp at h
  · split at h
    · simp at h
    · split at h
      · simp at h
      · rename_i n name every _ _ _ j r hq
        have hm : j ∈ reachL L b := meant_mem (L := L) (n := (n : Int)) (all := false) (name := bs name) (by rw [hq]; exact List.mem_cons_self ..)
        obtain ⟨k, rfl, hk⟩ := reach_lt hm
        split at h
        · split at h
          · rename_i h3 h4
            simp at h h3 h4
            subst h
            exact ⟨hk, hm, h3, h4⟩
          · simp at h
        · simp at h

set_option maxRecDepth 100000 in
set_option maxHeartbeats 2000000 in
theorem rbox_any {w0 : World} {L : Ld} {Es : List Ev} {w : World} (hS : Sn 62 [] w0 L Es w) (b : Nat) (hb : b < 6) (word : ByteArray) (hs : word.size ≤ 140737488355328) (hlen : Es.length ≤ 1000000) :
    Calls Tryd.prog 84 #[.pointer (some ⟨w0.heap.size, 0, none⟩), .int .i64 (b : Int), .string word] w fun e w' =>
      (∃ i, (boxL L b word).1 = some i ∧ e = .returned (.tuple #[.int .i64 (i : Int), .bool true]) ∧ Sn 62 [] w0 L Es w' ∧ Stp w0.heap.size 165 w w') ∨
      ((boxL L b word).1 = none ∧ e = .returned (.tuple #[.int .i64 0, .bool false]) ∧ Sn 62 [] w0 L (Es ++ [tellE L b (boxL L b word).2]) w' ∧ Stp w0.heap.size 165 w w') := by
  go_enter Tryd.func84, Tryd.ntmps84
  go_wp2_with fail
  refine (noun_any word _ hs).mono ?_
  rintro e w1 ⟨rfl, nd, hw1⟩
  have S1 := hide (show Sn 62 [] w0 L Es w1 by rw [hw1]; exact hS.drewN nd)
  have T1 := hide (show Stp w0.heap.size 165 w w1 by rw [hw1]; exact hS.stp (below_drewN (Below.refl _ _) nd) 165)
  clear hw1 hS
  cases hx : nounL word.data.toList with
  | none =>
    have HV := hide (show boxL L b word = (none, noThingS) by unfold boxL; rw [hx])
    clear hx
    unfold nounA
    simp only
    go_wp2_with fail
    refine (rtell_any S1.out b hb _ hlen).mono ?_
    rintro e w2 ⟨rfl, S2h, T2h⟩
    have S2 := hide S2h
    have T2 := hide (T1.out.trans T2h)
    clear S2h T2h S1 T1
    go_wp2
    exact bodyPost_ret (v := .tuple #[.int .i64 0, .bool false]) (res_two rfl _ _ _ _ rfl rfl) rfl (.inr ⟨by rw [HV.out], rfl, by rw [HV.out]; exact S2.out, T2.out⟩)
  | some r =>
    obtain ⟨n, name, every⟩ := r
    have hn99 := num_of hx
    cases he : every with
    | true =>
      subst he
      have HV := hide (show boxL L b word = (none, noThingS) by unfold boxL; rw [hx]; simp)
      clear hx
      unfold nounA
      simp only
      go_wp2_with fail
      refine (rtell_any S1.out b hb _ hlen).mono ?_
      rintro e w2 ⟨rfl, S2h, T2h⟩
      have S2 := hide S2h
      have T2 := hide (T1.out.trans T2h)
      clear S2h T2h S1 T1
      go_wp2
      exact bodyPost_ret (v := .tuple #[.int .i64 0, .bool false]) (res_two rfl _ _ _ _ rfl rfl) rfl (.inr ⟨by rw [HV.out], rfl, by rw [HV.out]; exact S2.out, T2.out⟩)
    | false =>
      subst he
      have HW := hide (show boxL L b word = (match meantL L (reachL L b) (n : Int) false (bs name) with
        | [] => (none, noThingS)
        | i :: _ => if L.kind i.toNat = 3 then (if L.on i.toNat = true then (some i.toNat, ⟨#[]⟩) else (none, shutS)) else (none, noThingS)) by unfold boxL; rw [hx]; simp)
      clear hx
      unfold nounA
      simp only
      go_wp2_with fail
      refine (reach_any S1.out b hb).mono ?_
      rintro e w2 ⟨v, rfl, ho, hb2⟩
      have S2 := hide (S1.out.below hb2)
      have T2 := hide (T1.out.trans (S1.out.stp hb2 165))
      have N2 := hide (numk_own S1.out hb2 ho)
      obtain ⟨av, cap, rfl⟩ := ho.shape
      have hrl := reach_len L b
      clear ho hb2 S1 T1
      go_wp2_with fail
      refine (meant_any S2.out N2.out (fun x hx => reach_lt hx) hrl { verb := 0, nth := (n : Int), all := false, name := bs name, second := ⟨#[]⟩, text := ⟨#[]⟩ } (by show -9223372036854775808 ≤ (n : Int); omega) (by show (n : Int) ≤ 9223372036854775807; omega)).mono ?_
      rintro e w3 ⟨v', rfl, hK, hb3⟩
      have S3 := hide (S2.out.below hb3)
      have T3 := hide (T2.out.trans (S2.out.stp hb3 165))
      have NK := hide hK
      obtain ⟨av3, cap3, rfl⟩ := hK.shape
      have HM := hide (fun x (hx : x ∈ meantL L (reachL L b) (n : Int) false (bs name)) => reach_lt (meant_mem hx))
      have hml : (meantL L (reachL L b) (n : Int) false (bs name)).length ≤ 1 := by
        unfold meantL nthL
        rw [if_neg (by simp)]
        split <;> simp
      clear hK hb3 S2 T2 N2
      simp only at NK ⊢
      generalize meantL L (reachL L b) (n : Int) false (bs name) = q at *
      cases q with
      | nil =>
        have HV := hide (show boxL L b word = (none, noThingS) from HW.out)
        clear NK
        go_wp2_with fail
        go_quiet (fail)
        go_wp2_with fail
        refine (rtell_any (S3.out.drewN nq) b hb _ hlen).mono ?_
        rintro e w4 ⟨rfl, S4h, T4h⟩
        have S4 := hide S4h
        have T4 := hide ((T3.out.trans (S3.out.stp (below_drewN (Below.refl _ _) nq) 165)).trans T4h)
        clear S4h T4h S3 T3
        go_wp2
        exact bodyPost_ret (v := .tuple #[.int .i64 0, .bool false]) (res_two rfl _ _ _ _ rfl rfl) rfl (.inr ⟨by rw [HV.out], rfl, by rw [HV.out]; exact S4.out, T4.out⟩)
      | cons x r =>
        obtain ⟨i, ei, hi⟩ := HM.out x (List.mem_cons_self ..)
        subst ei
        obtain ⟨bq, off, cap', e, hcell⟩ := NK.out.cell (k := 0) (by simp)
        injection e with e1 e2 e3
        subst e1 e3
        have hr0 : r = [] := List.eq_nil_of_length_eq_zero (by have h := hml; simp only [List.length_cons] at h; omega)
        subst hr0
        simp only [Nat.add_zero, List.getD_cons_zero, List.length_cons, List.length_nil, Nat.zero_add] at hcell e2 ⊢
        have hii : (i : Int) < 9 := by omega
        have c1 := S3.out.thing i 1 hi (by omega)
        have c4 := S3.out.thing i 4 hi (by omega)
        simp only [Ld.thingCell] at c1 c4
        have HI := hide (show boxL L b word = (if L.kind i = 3 then (if L.on i = true then (some i, ⟨#[]⟩) else (none, shutS)) else (none, noThingS)) from HW.out)
        clear NK HW HM e2 hml
        by_cases h3 : L.kind i = 3
        · have hk3 : (L.kind i != 3) = false := by simp [h3]
          cases h4 : L.on i with
          | true =>
            have HV := hide (show boxL L b word = (some i, ⟨#[]⟩) by rw [HI.out, if_pos h3, if_pos h4])
            rw [h4] at c4
            clear h3 h4 HI
            go_wp2_with fail
            go_quiet (fail)
            go_wp2_with fail
            go_quiet (fail)
            go_wp2
            refine bodyPost_ret (v := .tuple #[.int .i64 (i : Int), .bool true]) (res_two rfl _ _ _ _ rfl rfl) rfl (.inl ⟨i, by rw [HV.out], rfl, S3.out.drewN _, T3.out.trans (S3.out.stp (below_drewN (Below.refl _ _) _) 165)⟩)
          | false =>
            have HV := hide (show boxL L b word = (none, shutS) by rw [HI.out, if_pos h3, if_neg (by simp [h4])])
            rw [h4] at c4
            clear h3 h4 HI
            go_wp2_with fail
            go_quiet (fail)
            go_wp2_with fail
            go_quiet (fail)
            go_wp2_with fail
            refine (rtell_any (S3.out.drewN _) b hb _ hlen).mono ?_
            rintro e w4 ⟨rfl, S4h, T4h⟩
            have S4 := hide S4h
            have T4 := hide ((T3.out.trans (S3.out.stp (below_drewN (Below.refl _ _) _) 165)).trans T4h)
            clear S4h T4h S3 T3
            go_wp2
            exact bodyPost_ret (v := .tuple #[.int .i64 0, .bool false]) (res_two rfl _ _ _ _ rfl rfl) rfl (.inr ⟨by rw [HV.out], rfl, by rw [HV.out]; exact S4.out, T4.out⟩)
        · have hk3 : (L.kind i != 3) = true := by simp [h3]
          have HV := hide (show boxL L b word = (none, noThingS) by rw [HI.out, if_neg h3])
          clear h3 HI
          go_wp2_with fail
          go_quiet (fail)
          go_wp2_with fail
          refine (rtell_any (S3.out.drewN nq) b hb _ hlen).mono ?_
          rintro e w4 ⟨rfl, S4h, T4h⟩
          have S4 := hide S4h
          have T4 := hide ((T3.out.trans (S3.out.stp (below_drewN (Below.refl _ _) nq) 165)).trans T4h)
          clear S4h T4h S3 T3
          go_wp2
          exact bodyPost_ret (v := .tuple #[.int .i64 0, .bool false]) (res_two rfl _ _ _ _ rfl rfl) rfl (.inr ⟨by rw [HV.out], rfl, by rw [HV.out]; exact S4.out, T4.out⟩)
end Go.Proofs.YtaifjndkgfffpaaDoor
