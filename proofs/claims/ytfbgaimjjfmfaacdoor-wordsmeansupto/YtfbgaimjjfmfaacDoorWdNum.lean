/-
  The contract of number.
-/
import Derived.Test.YtfbgaimjjfmfaacDoorWdTrim
import Derived.Handy
namespace Go.Proofs.YtfbgaimjjfmfaacDoor
open Go.RowKit
set_option linter.unusedVariables false

/-- What number answers. -/
def numA (l : List UInt8) : Int × Bool := match numL l with | some n => ((n : Int), true) | none => (0, false)

theorem ret_num {n m : Int} {a b : Bool} (h : (n, a) = (m, b)) : Ending.returned (.tuple #[.int .i64 n, .bool a]) = .returned (.tuple #[.int .i64 m, .bool b]) := by
  simp at h; rw [h.1, h.2]

theorem numA_one (a : UInt8) : numA [a] = if 49 ≤ a.toNat ∧ a.toNat ≤ 57 then ((a.toNat : Int) - 48, true) else (0, false) := by
  unfold numA numL
  by_cases h : 49 ≤ a.toNat ∧ a.toNat ≤ 57
  · simp [h]; omega
  · simp [h]
theorem numA_two (a b : UInt8) : numA [a, b] = if 49 ≤ a.toNat ∧ a.toNat ≤ 57 ∧ 48 ≤ b.toNat ∧ b.toNat ≤ 57 then (((a.toNat : Int) - 48) * 10 + ((b.toNat : Int) - 48), true) else (0, false) := by
  unfold numA numL
  by_cases h : 49 ≤ a.toNat ∧ a.toNat ≤ 57 ∧ 48 ≤ b.toNat ∧ b.toNat ≤ 57
  · simp [h]; omega
  · simp [h]
theorem numA_long {l : List UInt8} (h : 2 < l.length) : numA l = (0, false) := by
  match l, h with
  | a :: b :: c :: r, _ => rfl

set_option maxHeartbeats 4000000 in
set_option maxRecDepth 100000 in
theorem number_any (s : ByteArray) (w : World) (hs : s.size ≤ 140737488355328) :
    Calls Tryd.prog 27 #[.string s] w fun e w' => e = .returned (.tuple #[.int .i64 (numA s.data.toList).1, .bool (numA s.data.toList).2]) ∧ w' = w := by
  by_cases h2 : 2 < s.size
  · have HV := hide (numA_long (l := s.data.toList) (by rw [size_len]; exact h2))
    have h0 : s.toList.isEmpty = false := by
      rw [Lib.toList_data]
      cases h : s.data.toList with
      | nil => have := size_len s; rw [h] at this; simp at this; omega
      | cons x r => rfl
    go_enter Tryd.func27, Tryd.ntmps27
    go_wp2
    go_ret2
    exact ⟨ret_num HV.out.symm, rfl⟩
  · obtain ⟨l, rfl⟩ : ∃ l : List UInt8, s = bs l := ⟨s.data.toList, (bs_of s).symm⟩
    rw [bs_size] at h2
    rw [bs_data]
    match l, h2 with
    | [], _ =>
      unfold bs
      go_enter Tryd.func27, Tryd.ntmps27
      go_wp2
      go_ret2
      exact ⟨rfl, rfl⟩
    | [a], _ =>
      have HV := hide (numA_one a)
      have ha := a.toNat_lt
      obtain ⟨x, hx⟩ : ∃ x : Nat, x = a.toNat := ⟨_, rfl⟩
      rw [← hx] at ha HV
      have hg : ∀ h, ((⟨#[a]⟩ : ByteArray)[0]'h).toNat = x := fun _ => hx.symm
      have hz : (⟨#[a]⟩ : ByteArray).size = 1 := rfl
      have hl : (⟨#[a]⟩ : ByteArray).toList.isEmpty = false := by rw [Lib.toList_data]; rfl
      show Calls Tryd.prog 27 #[.string ⟨#[a]⟩] w _
      generalize (⟨#[a]⟩ : ByteArray) = t at hg hz hl
      clear hx
      by_cases h48 : x = 48
      · subst h48
        go_enter Tryd.func27, Tryd.ntmps27
        go_wp2
        go_ret2
        exact ⟨ret_num (by rw [HV.out]; rfl), rfl⟩
      · have hb48 : ((x : Int) == 48) = false := by simp; omega
        go_enter Tryd.func27, Tryd.ntmps27
        go_wp2
        go_rounds 2
        all_goals go_ret2
        all_goals refine ⟨ret_num ?_, rfl⟩
        all_goals rw [HV.out]
        all_goals first | (rw [if_pos (by omega)]; done) | (rw [if_pos (by omega)]; simp; done) | (rw [if_neg (by omega)]; done) | (rw [if_pos (by omega)]; simp; omega)
    | [a, b], _ =>
      have HV := hide (numA_two a b)
      have ha := a.toNat_lt
      have hb := b.toNat_lt
      obtain ⟨x, hx⟩ : ∃ x : Nat, x = a.toNat := ⟨_, rfl⟩
      obtain ⟨y, hy⟩ : ∃ y : Nat, y = b.toNat := ⟨_, rfl⟩
      rw [← hx] at ha HV
      rw [← hy] at hb HV
      have hg : ∀ h, ((⟨#[a, b]⟩ : ByteArray)[0]'h).toNat = x := fun _ => hx.symm
      have hg1 : ∀ h, ((⟨#[a, b]⟩ : ByteArray)[1]'h).toNat = y := fun _ => hy.symm
      have hz : (⟨#[a, b]⟩ : ByteArray).size = 2 := rfl
      have hl : (⟨#[a, b]⟩ : ByteArray).toList.isEmpty = false := by rw [Lib.toList_data]; rfl
      show Calls Tryd.prog 27 #[.string ⟨#[a, b]⟩] w _
      generalize (⟨#[a, b]⟩ : ByteArray) = t at hg hg1 hz hl
      clear hx hy
      by_cases h48 : x = 48
      · subst h48
        go_enter Tryd.func27, Tryd.ntmps27
        go_wp2
        go_ret2
        exact ⟨ret_num (by rw [HV.out]; rfl), rfl⟩
      · have hb48 : ((x : Int) == 48) = false := by simp; omega
        go_enter Tryd.func27, Tryd.ntmps27
        go_wp2
        go_rounds 3
        all_goals go_ret2
        all_goals refine ⟨ret_num ?_, rfl⟩
        all_goals rw [HV.out]
        all_goals first | (rw [if_pos (by omega)]; done) | (rw [if_pos (by omega)]; simp; done) | (rw [if_neg (by omega)]; done) | (rw [if_pos (by omega)]; simp; omega)
    | a :: b :: c :: r, h2 => exact absurd (by simp) h2
end Go.Proofs.YtfbgaimjjfmfaacDoor
