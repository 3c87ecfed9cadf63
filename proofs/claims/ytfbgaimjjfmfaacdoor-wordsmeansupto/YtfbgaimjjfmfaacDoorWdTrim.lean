/-
  The contracts of strings.TrimLeft and Trim, at spaces.
-/
import Derived.Test.YtfbgaimjjfmfaacDoorWdLib
namespace Go.Proofs.YtfbgaimjjfmfaacDoor
open Go.RowKit
set_option linter.unusedVariables false

def strSize : Value → Nat
  | .string t => t.size
  | _ => 0

theorem ret_str {a b : ByteArray} (h : a = b) : Ending.returned (.string a) = .returned (.string b) := by rw [h]

theorem trimL_cons (x : UInt8) (r : List UInt8) : trimL (x :: r) = if x = 32 then trimL r else x :: r := by
  by_cases h : x = 32
  · simp [trimL, h]
  · simp [trimL, h]

theorem head_drop {t : ByteArray} (h0 : 0 < t.size) : t.data.toList = t[0] :: t.data.toList.drop 1 := by
  have : 0 < t.data.toList.length := by rw [size_len]; exact h0
  cases h : t.data.toList with
  | nil => rw [h] at this; simp at this
  | cons x r =>
    have hx : t[0] = x := by
      show t.data[0] = x
      have e : t.data[0]'(by simpa using this) = t.data.toList[0]'this := by simp
      rw [e]; simp [h]
    simp [hx]

theorem last_take {t : ByteArray} (h0 : 0 < t.size) : t.data.toList = t.data.toList.take (t.size - 1) ++ [t[t.size - 1]] := by
  have hl := size_len t
  have hi : t.size - 1 < t.data.toList.length := by omega
  have e : t[t.size - 1] = t.data.toList[t.size - 1]'hi := by
    show t.data[t.size - 1] = _
    simp
  rw [e, ← List.take_succ_eq_append_getElem hi, show t.size - 1 + 1 = t.data.toList.length by omega, List.take_length]

theorem trimL_stop {t : ByteArray} (h0 : 0 < t.size) (h : ((t[0].toNat : Int) == 32) = false) : trimL t.data.toList = t.data.toList := by
  rw [head_drop h0, trimL_cons, if_neg]
  intro e; rw [e] at h; simp at h
theorem trimL_step {t : ByteArray} (h0 : 0 < t.size) (h : ((t[0].toNat : Int) == 32) = true) : trimL (t.extract 1 t.size).data.toList = trimL t.data.toList := by
  have h1 : t[0] = 32 := by
    have : t[0].toNat = 32 := by have := beq_iff_eq.1 h; omega
    exact UInt8.toNat.inj this
  rw [extract_from, bs_data]
  conv => rhs; rw [head_drop h0, trimL_cons, if_pos h1]
theorem trimL_empty {t : ByteArray} (h0 : ¬ 0 < t.size) : trimL t.data.toList = t.data.toList := by
  have : t.data.toList = [] := List.eq_nil_of_length_eq_zero (by rw [size_len]; omega)
  rw [this]; rfl

theorem trimR_snoc (r : List UInt8) (x : UInt8) : trimR (r ++ [x]) = if x = 32 then trimR r else r ++ [x] := by
  unfold trimR
  rw [List.reverse_append, List.reverse_singleton, List.singleton_append, trimL_cons]
  by_cases h : x = 32
  · simp [h]
  · simp [h]
theorem trimR_stop {t : ByteArray} {m : Nat} (hm : t.size = m + 1) (h : ((t[m].toNat : Int) == 32) = false) : trimR t.data.toList = t.data.toList := by
  have e0 := last_take (t := t) (by omega)
  have e1 : t[t.size - 1] = t[m] := by congr 1; omega
  rw [e1] at e0
  conv => lhs; rw [e0, trimR_snoc]
  rw [if_neg, ← e0]
  intro e; rw [e] at h; simp at h
theorem trimR_step {t : ByteArray} {m : Nat} (hm : t.size = m + 1) (h : ((t[m].toNat : Int) == 32) = true) : trimR (t.extract 0 m).data.toList = trimR t.data.toList := by
  have e0 := last_take (t := t) (by omega)
  have e1 : t[t.size - 1] = t[m] := by congr 1; omega
  rw [e1, show t.size - 1 = m by omega] at e0
  have h1 : t[m] = 32 := by
    have : t[m].toNat = 32 := by have := beq_iff_eq.1 h; omega
    exact UInt8.toNat.inj this
  rw [extract_upto, bs_data]
  conv => rhs; rw [e0, trimR_snoc, if_pos h1]
theorem trimR_empty {t : ByteArray} (h0 : ¬ 0 < t.size) : trimR t.data.toList = t.data.toList := by
  have : t.data.toList = [] := List.eq_nil_of_length_eq_zero (by rw [size_len]; omega)
  rw [this]; rfl
theorem trimL_len (l : List UInt8) : (trimL l).length ≤ l.length := by
  induction l with
  | nil => simp [trimL]
  | cons x r ih => rw [trimL_cons]; split <;> simp <;> omega
theorem trimR_len (l : List UInt8) : (trimR l).length ≤ l.length := by
  have := trimL_len l.reverse
  simpa [trimR] using this

set_option maxHeartbeats 1000000 in
set_option maxRecDepth 100000 in
theorem tlbyte_any (s : ByteArray) (w : World) (hs : s.size ≤ 140737488355328) :
    Calls Tryd.prog 37 #[.string s, .int .u8 32] w fun e w' => e = .returned (.string (bs (trimL s.data.toList))) ∧ w' = w := by
  go_enter Tryd.func37, Tryd.ntmps37
  go_wp2
  go_loop [0] (fun v => ∃ t : ByteArray, v = .string t ∧ t.size ≤ s.size ∧ Hid (trimL t.data.toList = trimL s.data.toList)) (fun v => strSize v)
  case atStart => exact ⟨s, rfl, Nat.le_refl _, rfl⟩
  case round =>
    obtain ⟨t, rfl, ht, HT⟩ := hrel
    by_cases h0 : 0 < t.size
    · cases hb : ((t[0].toNat : Int) == 32)
      · have HD := hide (trimL_stop h0 hb)
        go_wp2
        go_ret
        exact ⟨ret_str (by rw [← HT.out, HD.out, bs_of]), rfl⟩
      · have HD := hide (trimL_step h0 hb)
        go_wp2
        exact ⟨⟨_, rfl, by simp; omega, HD.out.trans HT.out⟩, by simp [strSize]; omega⟩
    · have HD := hide (trimL_empty h0)
      go_wp2
      go_ret
      exact ⟨ret_str (by rw [← HT.out, HD.out, bs_of]), rfl⟩

set_option maxHeartbeats 1000000 in
set_option maxRecDepth 100000 in
theorem trbyte_any (s : ByteArray) (w : World) (hs : s.size ≤ 140737488355328) :
    Calls Tryd.prog 41 #[.string s, .int .u8 32] w fun e w' => e = .returned (.string (bs (trimR s.data.toList))) ∧ w' = w := by
  go_enter Tryd.func41, Tryd.ntmps41
  go_wp2
  go_loop [0] (fun v => ∃ t : ByteArray, v = .string t ∧ t.size ≤ s.size ∧ Hid (trimR t.data.toList = trimR s.data.toList)) (fun v => strSize v)
  case atStart => exact ⟨s, rfl, Nat.le_refl _, rfl⟩
  case round =>
    obtain ⟨t, rfl, ht, HT⟩ := hrel
    by_cases h0 : 0 < t.size
    · obtain ⟨m, hm⟩ : ∃ m : Nat, t.size = m + 1 := ⟨t.size - 1, by omega⟩
      cases hb : ((t[m].toNat : Int) == 32)
      · have HD := hide (trimR_stop hm hb)
        go_wp2
        go_ret
        exact ⟨ret_str (by rw [← HT.out, HD.out, bs_of]), rfl⟩
      · have HD := hide (trimR_step hm hb)
        go_wp2
        exact ⟨⟨_, rfl, by simp; omega, HD.out.trans HT.out⟩, by simp [strSize]; omega⟩
    · have HD := hide (trimR_empty h0)
      go_wp2
      go_ret
      exact ⟨ret_str (by rw [← HT.out, HD.out, bs_of]), rfl⟩
end Go.Proofs.YtfbgaimjjfmfaacDoor
