/-
  Which player's number is free; what may be a player's name: contracts.
-/
import Derived.Test.YtaifjndkgfffpaaDoorMgJ
namespace Go.Proofs.YtaifjndkgfffpaaDoor
open Go.RowKit
set_option linter.unusedVariables false

/-- The first player's number that nobody has. -/
def vacA (L : Ld) : Int × Bool := if L.here 2 = false then (2, true) else if L.here 3 = false then (3, true) else if L.here 4 = false then (4, true) else if L.here 5 = false then (5, true) else (0, false)
def NoVac (L : Ld) (k : Nat) : Prop := ∀ j, 2 ≤ j → j < k → L.here j = true
theorem vac_at {L : Ld} {k : Nat} (h2 : 2 ≤ k) (hk : k < 6) (hn : NoVac L k) (h : L.here k = false) : vacA L = ((k : Int), true) := by
  rcases (by omega : k = 2 ∨ k = 3 ∨ k = 4 ∨ k = 5) with rfl | rfl | rfl | rfl
  · simp [vacA, h]
  · simp [vacA, h, hn 2 (by omega) (by omega)]
  · simp [vacA, h, hn 2 (by omega) (by omega), hn 3 (by omega) (by omega)]
  · simp [vacA, h, hn 2 (by omega) (by omega), hn 3 (by omega) (by omega), hn 4 (by omega) (by omega)]
theorem vac_none {L : Ld} (hn : NoVac L 6) : vacA L = (0, false) := by
  simp [vacA, hn 2 (by omega) (by omega), hn 3 (by omega) (by omega), hn 4 (by omega) (by omega), hn 5 (by omega) (by omega)]

set_option maxRecDepth 100000 in
set_option maxHeartbeats 1000000 in
theorem rfree_any (L : Ld) (w : World) :
    Calls Tryd.prog 23 #[.agg L.cells] w fun e w' => e = .returned (.tuple #[.int .i64 (vacA L).1, .bool (vacA L).2]) ∧ Below w.heap.size w w' := by
  have HC := hide (cod_new w L)
  have HB := hide (below_box w (.cells L.cells 34))
  go_enter Tryd.func23, Tryd.ntmps23
  go_upto_region 1 with fail
  generalize w.alloc (.cells L.cells 34) = wa at *
  go_wp2_with fail
  go_loop [4] (fun v => ∃ k : Nat, v = .int .i64 k ∧ 2 ≤ k ∧ k ≤ 6 ∧ Hid (NoVac L k)) (fun v => 6 - (intOf v).toNat)
  case atStart => exact ⟨2, rfl, by omega, by omega, fun j h1 h2 => by omega⟩
  case round =>
    obtain ⟨k, rfl, h2, hk, HN⟩ := hrel
    by_cases hlt : k < 6
    · have c1 := HC.out.being k 1 hlt (by omega)
      simp only [Ld.beingCell] at c1
      have hki : (k : Int) < 6 := by omega
      cases hh : L.here k with
      | true =>
        have HNN : Hid (NoVac L (k + 1)) := fun j h1 h2 => by
          by_cases e : j = k
          · subst e; exact hh
          · exact HN.out j h1 (by omega)
        rw [hh] at c1
        clear hh
        go_wp2
        exact ⟨⟨k + 1, by go_num, by omega, hlt, HNN.out⟩, by simp [intOf]; omega⟩
      | false =>
        have HV := hide (vac_at h2 hlt HN.out hh)
        rw [hh] at c1
        clear hh
        go_wp2
        go_ret2
        exact ⟨ret_dir HV.out.symm, HB.out⟩
    · have hkk : k = 6 := by omega
      subst hkk
      have HV := hide (vac_none HN.out)
      go_wp2
      go_ret2
      exact ⟨ret_dir HV.out.symm, HB.out⟩

def okC (c : UInt8) : Bool := decide (97 ≤ c.toNat) && decide (c.toNat ≤ 122)
def someoneT : ByteArray := ⟨#[115, 111, 109, 101, 111, 110, 101]⟩
def youT : ByteArray := ⟨#[121, 111, 117]⟩
/-- What may be a player's name. -/
def namedB (s : ByteArray) : Bool := if s = ⟨#[]⟩ then false else if 8 < s.size then false else if s = someoneT then false else if s = youT then false else s.data.toList.all okC

theorem text_eq {s : ByteArray} {l : List UInt8} {t : ByteArray} (ht : t.data.toList = l) : (s.toList == l) = decide (s = t) := by
  rw [Lib.toList_data, ← ht]
  by_cases h : s = t
  · subst h; simp
  · rw [decide_eq_false h]
    simp only [beq_eq_false_iff_ne, ne_eq]
    intro e
    exact h (ByteArray.ext (Array.toList_inj.1 e))
theorem byte_at {s : ByteArray} {k : Nat} (hk : k < s.size) : ∃ c : UInt8, (∀ h, (s[k]'h).toNat = c.toNat) ∧ s.data.toList.take (k + 1) = s.data.toList.take k ++ [c] := by
  have hl : k < s.data.toList.length := by simpa using hk
  refine ⟨s.data.toList[k], fun h => rfl, ?_⟩
  rw [List.take_add_one, List.getElem?_eq_getElem hl]; rfl

set_option maxRecDepth 100000 in
set_option maxHeartbeats 1000000 in
theorem rnamed_any (s : ByteArray) (w : World) (hs : s.size ≤ 140737488355328) : Calls Tryd.prog 12 #[.string s] w fun e w' => e = .returned (.bool (namedB s)) ∧ w' = w := by
  by_cases h0 : s = ⟨#[]⟩
  · have HV := hide (show namedB s = false by unfold namedB; rw [if_pos h0])
    have b0 : s.toList.isEmpty = true := by rw [empty_iff]; simpa using h0
    clear h0
    go_enter Tryd.func12, Tryd.ntmps12
    go_wp2
    go_ret
    exact ⟨ret_bool HV.out.symm, rfl⟩
  have b0 : s.toList.isEmpty = false := by rw [empty_iff]; simpa using h0
  by_cases h8 : 8 < s.size
  · have HV := hide (show namedB s = false by unfold namedB; rw [if_neg h0, if_pos h8])
    have b8 : decide ((8 : Int) < (s.size : Int)) = true := by simp; omega
    clear h0
    go_enter Tryd.func12, Tryd.ntmps12
    go_wp2
    go_ret
    exact ⟨ret_bool HV.out.symm, rfl⟩
  have b8 : decide ((8 : Int) < (s.size : Int)) = false := by simp; omega
  by_cases hS : s = someoneT
  · have HV := hide (show namedB s = false by unfold namedB; rw [if_neg h0, if_neg h8, if_pos hS])
    have bS : (s.toList == [115, 111, 109, 101, 111, 110, 101]) = true := by rw [text_eq (l := [115, 111, 109, 101, 111, 110, 101]) (t := someoneT) rfl]; exact decide_eq_true hS
    clear h0 hS
    go_enter Tryd.func12, Tryd.ntmps12
    go_wp2
    go_ret
    exact ⟨ret_bool HV.out.symm, rfl⟩
  have bS : (s.toList == [115, 111, 109, 101, 111, 110, 101]) = false := by rw [text_eq (l := [115, 111, 109, 101, 111, 110, 101]) (t := someoneT) rfl]; exact decide_eq_false hS
  by_cases hY : s = youT
  · have HV := hide (show namedB s = false by unfold namedB; rw [if_neg h0, if_neg h8, if_neg hS, if_pos hY])
    have bY : (s.toList == [121, 111, 117]) = true := by rw [text_eq (l := [121, 111, 117]) (t := youT) rfl]; exact decide_eq_true hY
    clear h0 hS hY
    go_enter Tryd.func12, Tryd.ntmps12
    go_wp2
    go_ret
    exact ⟨ret_bool HV.out.symm, rfl⟩
  have bY : (s.toList == [121, 111, 117]) = false := by rw [text_eq (l := [121, 111, 117]) (t := youT) rfl]; exact decide_eq_false hY
  have HV := hide (show namedB s = s.data.toList.all okC by unfold namedB; rw [if_neg h0, if_neg h8, if_neg hS, if_neg hY])
  clear h0 hS hY
  have hsz : s.data.toList.length = s.size := by simp
  have HZ := hide hsz
  clear hsz
  go_enter Tryd.func12, Tryd.ntmps12
  go_wp2_with fail
  go_loop [21] (fun v => ∃ k : Nat, v = .int .i64 k ∧ k ≤ s.size ∧ Hid ((s.data.toList.take k).all okC = true)) (fun v => s.size - (intOf v).toNat)
  case atStart => exact ⟨0, rfl, by omega, by show _ = _; simp⟩
  case round =>
    obtain ⟨k, rfl, hk, HN⟩ := hrel
    by_cases hlt : k < s.size
    · obtain ⟨c, hg, ht⟩ := byte_at (s := s) (k := k) hlt
      have hc := c.toNat_lt
      obtain ⟨x, hx⟩ : ∃ x : Nat, x = c.toNat := ⟨_, rfl⟩
      have HX := hide hx
      rw [← hx] at hg hc
      clear hx
      by_cases ho : 97 ≤ x ∧ x ≤ 122
      · have HNN : Hid ((s.data.toList.take (k + 1)).all okC = true) := by
          show _ = _
          rw [ht, List.all_append, HN.out]
          simp [okC, ← HX.out, ho.1, ho.2]
        have d1 : decide ((x : Int) < 97) = false := by simp; omega
        have d2 : decide ((122 : Int) < (x : Int)) = false := by simp; omega
        clear ht ho
        go_wp2
        exact ⟨⟨k + 1, by go_num, hlt, HNN.out⟩, by simp [intOf]; omega⟩
      · have HF := hide (show s.data.toList.all okC = false by
          have e : s.data.toList = s.data.toList.take (k + 1) ++ s.data.toList.drop (k + 1) := (List.take_append_drop ..).symm
          rw [e, List.all_append, ht, List.all_append]
          have : okC c = false := by
            unfold okC; rw [← HX.out]
            by_cases h1 : 97 ≤ x
            · simp [h1]; omega
            · simp [h1]
          simp [this])
        have hd : (x : Int) < 97 ∨ (122 : Int) < (x : Int) := by omega
        clear ht ho
        rcases hd with hd | hd
        · go_wp2
          go_ret
          exact ⟨ret_bool (by rw [HV.out, HF.out]), rfl⟩
        · have d1 : decide ((x : Int) < 97) = false := by simp; omega
          go_wp2
          go_ret
          exact ⟨ret_bool (by rw [HV.out, HF.out]), rfl⟩
    · have hkk : k = s.size := by omega
      subst hkk
      have HF := hide (show s.data.toList.all okC = true by have := HN.out; rw [← HZ.out, List.take_length] at this; exact this)
      go_wp2
      go_ret
      exact ⟨ret_bool (by rw [HV.out, HF.out]), rfl⟩
end Go.Proofs.YtaifjndkgfffpaaDoor
