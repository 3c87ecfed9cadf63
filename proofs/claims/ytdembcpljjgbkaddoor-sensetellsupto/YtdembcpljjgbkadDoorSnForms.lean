/-
  The forms: their contract.
-/
import Derived.Test.YtdembcpljjgbkadDoorSnForm
namespace Go.Proofs.YtdembcpljjgbkadDoor
open Go.RowKit
set_option linter.unusedVariables false

theorem ret_forms {k : Int} {a b : ByteArray} (ha : a = bs (formA k)) (hb : b = bs (formO k)) : Ending.returned (.tuple #[.string a, .string b]) = .returned (.tuple #[.string (bs (formA k)), .string (bs (formO k))]) := by rw [ha, hb]

set_option maxRecDepth 100000 in
set_option maxHeartbeats 1000000 in
theorem forms_any (k : Int) (w : World) : Calls Tryd.prog 41 #[.int .i64 k] w fun e w' => e = .returned (.tuple #[.string (bs (formA k)), .string (bs (formO k))]) ∧ w' = w := by
  rcases kind_cases k with rfl | rfl | rfl | rfl | rfl | rfl | rfl | rfl | rfl | rfl | rfl | rfl | rfl | rfl | rfl | rfl | rfl | rfl | h
  iterate 18
    · go_enter Tryd.func41, Tryd.ntmps41
      go_wp2
      go_ret2
      exact ⟨rfl, rfl⟩
  have HA := hide (formA_none h)
  have HO := hide (formO_none h)
  have e1 : (k == 1) = false := by unfold isKind at h; simp; omega
  have e2 : (k == 2) = false := by unfold isKind at h; simp; omega
  have e3 : (k == 3) = false := by unfold isKind at h; simp; omega
  have e4 : (k == 4) = false := by unfold isKind at h; simp; omega
  have e5 : (k == 5) = false := by unfold isKind at h; simp; omega
  have e6 : (k == 6) = false := by unfold isKind at h; simp; omega
  have e7 : (k == 7) = false := by unfold isKind at h; simp; omega
  have e8 : (k == 8) = false := by unfold isKind at h; simp; omega
  have e9 : (k == 9) = false := by unfold isKind at h; simp; omega
  have e10 : (k == 10) = false := by unfold isKind at h; simp; omega
  have e11 : (k == 11) = false := by unfold isKind at h; simp; omega
  have e12 : (k == 12) = false := by unfold isKind at h; simp; omega
  have e13 : (k == 13) = false := by unfold isKind at h; simp; omega
  have e14 : (k == 14) = false := by unfold isKind at h; simp; omega
  have e15 : (k == 15) = false := by unfold isKind at h; simp; omega
  have e16 : (k == 16) = false := by unfold isKind at h; simp; omega
  have e17 : (k == 17) = false := by unfold isKind at h; simp; omega
  have e18 : (k == 18) = false := by unfold isKind at h; simp; omega
  clear h
  go_enter Tryd.func41, Tryd.ntmps41
  go_wp2
  go_ret2
  exact ⟨ret_forms (by rw [HA.out]; rfl) (by rw [HO.out]; rfl), rfl⟩
end Go.Proofs.YtdembcpljjgbkadDoor
