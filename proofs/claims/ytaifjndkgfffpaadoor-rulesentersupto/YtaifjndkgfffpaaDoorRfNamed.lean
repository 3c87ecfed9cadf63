/-
  The document's own word on names: the contract.
-/
import Derived.Test.YtaifjndkgfffpaaDoorRuNamed
import Derived.Lib.ConvBytes
namespace Go.Proofs.YtaifjndkgfffpaaDoor
open Go.RowKit
set_option linter.unusedVariables false

theorem bytes_low (w : World) (s : ByteArray) : Below w.heap.size w (Lib.bytesWorld w 5 s) :=
  ⟨rfl, rfl, rfl, by rw [Lib.bytesWorld_size]; omega, fun k hk => Lib.bytesWorld_at_old w 5 s k hk⟩
theorem byte_in {s : ByteArray} {k : Nat} (hk : k < s.size) : ∃ c : UInt8, s.data.toList.getD k 0 = c ∧ s.data.toList.take (k + 1) = s.data.toList.take k ++ [c] := by
  have hl : k < s.data.toList.length := by simpa using hk
  refine ⟨s.data.toList[k], by simp [List.getD_eq_getElem?_getD, List.getElem?_eq_getElem hl], ?_⟩
  rw [List.take_add_one, List.getElem?_eq_getElem hl]; rfl

set_option maxRecDepth 100000 in
set_option maxHeartbeats 1000000 in
theorem isnamed_any (s : ByteArray) (w : World) (hs : s.size ≤ 140737488355328) : Calls Tryd.prog 13 #[.string s] w fun e w' => e = .returned (.bool (namedB s)) ∧ Below w.heap.size w w' := by
  by_cases hS : s = someoneT
  · have HV := hide (show namedB s = false by subst hS; decide)
    have bS : (s.toList == [115, 111, 109, 101, 111, 110, 101]) = true := by rw [text_eq (l := [115, 111, 109, 101, 111, 110, 101]) (t := someoneT) rfl]; exact decide_eq_true hS
    clear hS
    go_enter Tryd.func13, Tryd.ntmps13
    go_wp2
    go_ret
    exact ⟨ret_bool HV.out.symm, Below.refl _ _⟩
  have bS : (s.toList == [115, 111, 109, 101, 111, 110, 101]) = false := by rw [text_eq (l := [115, 111, 109, 101, 111, 110, 101]) (t := someoneT) rfl]; exact decide_eq_false hS
  by_cases hY : s = youT
  · have HV := hide (show namedB s = false by subst hY; decide)
    have bY : (s.toList == [121, 111, 117]) = true := by rw [text_eq (l := [121, 111, 117]) (t := youT) rfl]; exact decide_eq_true hY
    clear hS hY
    go_enter Tryd.func13, Tryd.ntmps13
    go_wp2
    go_ret
    exact ⟨ret_bool HV.out.symm, Below.refl _ _⟩
  have bY : (s.toList == [121, 111, 117]) = false := by rw [text_eq (l := [121, 111, 117]) (t := youT) rfl]; exact decide_eq_false hY
  by_cases h0 : s = ⟨#[]⟩
  · have HV := hide (show namedB s = false by unfold namedB; rw [if_pos h0])
    have b0 : s.toList.isEmpty = true := by rw [empty_iff]; simpa using h0
    clear h0 hS hY
    go_enter Tryd.func13, Tryd.ntmps13
    go_wp2
    go_ret
    exact ⟨ret_bool HV.out.symm, Below.refl _ _⟩
  have b0 : s.toList.isEmpty = false := by rw [empty_iff]; simpa using h0
  by_cases h8 : 8 < s.size
  · have HV := hide (show namedB s = false by unfold namedB; rw [if_neg h0, if_pos h8])
    have b8 : decide ((8 : Int) < (s.size : Int)) = true := by simp; omega
    clear h0 hS hY
    go_enter Tryd.func13, Tryd.ntmps13
    go_wp2
    go_ret
    exact ⟨ret_bool HV.out.symm, Below.refl _ _⟩
  have b8 : decide ((8 : Int) < (s.size : Int)) = false := by simp; omega
  have HV := hide (show namedB s = s.data.toList.all okC by unfold namedB; rw [if_neg h0, if_neg h8, if_neg hS, if_neg hY])
  clear h0 hS hY
  have hsz : s.data.toList.length = s.size := by simp
  have HZ := hide hsz
  clear hsz
  have hcv := Lib.run_convert_string_bytes (P := Tryd.prog) w 9 68 5 s Tryd.underlying9 Tryd.underlying68 Tryd.underlying5
  have hbl := hide (bytes_low w s)
  go_enter Tryd.func13, Tryd.ntmps13
  go_wp2_with fail
  go_loop [23] (fun v => ∃ k : Nat, v = .int .i64 k ∧ k ≤ s.size ∧ Hid ((s.data.toList.take k).all okC = true)) (fun v => s.size - (intOf v).toNat)
  case atStart => exact ⟨0, rfl, by omega, by show _ = _; simp⟩
  case round =>
    obtain ⟨k, rfl, hk, HN⟩ := hrel
    by_cases hlt : k < s.size
    · obtain ⟨c, hg, ht⟩ := byte_in (s := s) (k := k) hlt
      have hcell : (Lib.bytesWorld w 5 s).cell? ⟨w.heap.size, k, none⟩ = some (.int .u8 (c.toNat : Int)) := by rw [Lib.bytesWorld_cell w 5 s k hlt, hg]
      have hc := c.toNat_lt
      obtain ⟨x, hx⟩ : ∃ x : Nat, x = c.toNat := ⟨_, rfl⟩
      have HX := hide hx
      rw [← hx] at hcell hc
      clear hx hg
      by_cases ho : 97 ≤ x ∧ x ≤ 122
      · have HNN : Hid ((s.data.toList.take (k + 1)).all okC = true) := by
          show _ = _
          rw [ht, List.all_append, HN.out]
          simp [okC, ← HX.out, ho.1, ho.2]
        have d1 : decide ((x : Int) < 97) = false := by simp; omega
        have d2 : decide ((122 : Int) < (x : Int)) = false := by simp; omega
        clear ht ho
        go_wp2
        exact ⟨⟨k + 1, by go_num, hlt, HNN.out⟩, by simp [intOf]; omega⟩
      · have HF := hide (show s.data.toList.all okC = false by
          have e : s.data.toList = s.data.toList.take (k + 1) ++ s.data.toList.drop (k + 1) := (List.take_append_drop ..).symm
          rw [e, List.all_append, ht, List.all_append]
          have : okC c = false := by
            unfold okC; rw [← HX.out]
            by_cases h1 : 97 ≤ x
            · simp [h1]; omega
            · simp [h1]
          simp [this])
        have hd : (x : Int) < 97 ∨ (122 : Int) < (x : Int) := by omega
        clear ht ho
        rcases hd with hd | hd
        · go_wp2
          go_ret
          exact ⟨ret_bool (by rw [HV.out, HF.out]), hbl.out⟩
        · have d1 : decide ((x : Int) < 97) = false := by simp; omega
          go_wp2
          go_ret
          exact ⟨ret_bool (by rw [HV.out, HF.out]), hbl.out⟩
    · have hkk : k = s.size := by omega
      subst hkk
      have HF := hide (show s.data.toList.all okC = true by have := HN.out; rw [← HZ.out, List.take_length] at this; exact this)
      go_wp2
      go_ret
      exact ⟨ret_bool (by rw [HV.out, HF.out]), hbl.out⟩
end Go.Proofs.YtaifjndkgfffpaaDoor
