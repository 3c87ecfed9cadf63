/-
  Contracts of the small functions of package telnet.
-/
import Derived.Test.YtbjcmnemcgadjaaRows
import Derived.Test.YtbjcmnemcgadjaaTel
import Derived.WalkKit
import Derived.ProofKit
import Derived.OpenShut
import Derived.ShutString
import Derived.WalkSpells
import Derived.WalkLawsBesides
import Derived.Deep.QuietTactic
import Derived.BigQuiet
import Derived.Deep.RegionWith
namespace Go.Proofs.Ytbjcmnemcgadjaa
open Go.RowKit

theorem ret_bool {a b : Bool} (h : a = b) : Ending.returned (.bool a) = .returned (.bool b) := by rw [h]

theorem place_1 (w : World) : Calls Try.prog 35 #[.int .i64 1] w fun e w' => e = .returned (.int .i64 0) ∧ w' = w := by
  go_enter Try.func35, Try.ntmps35
  go_wp2
  go_ret
  exact ⟨rfl, rfl⟩

theorem place_3 (w : World) : Calls Try.prog 35 #[.int .i64 3] w fun e w' => e = .returned (.int .i64 1) ∧ w' = w := by
  go_enter Try.func35, Try.ntmps35
  go_wp2
  go_ret
  exact ⟨rfl, rfl⟩

theorem place_31 (w : World) : Calls Try.prog 35 #[.int .i64 31] w fun e w' => e = .returned (.int .i64 2) ∧ w' = w := by
  go_enter Try.func35, Try.ntmps35
  go_wp2
  go_ret
  exact ⟨rfl, rfl⟩

theorem ours_1 (b : Nat) (w : World) : Calls Try.prog 31 #[.pointer (some ⟨b, 0, none⟩), .int .i64 1] w fun e w' => e = .returned (.pointer (some ⟨b, 3, none⟩)) ∧ ∃ n, w' = w.drewN n := by
  go_enter Try.func31, Try.ntmps31
  go_wp2
  go_quiet ((go_at_call 35; exact Calls.quiet_of_same (place_1 _)))
  go_wp2
  go_ret
  exact ⟨rfl, _, rfl⟩

theorem ours_3 (b : Nat) (w : World) : Calls Try.prog 31 #[.pointer (some ⟨b, 0, none⟩), .int .i64 3] w fun e w' => e = .returned (.pointer (some ⟨b, 4, none⟩)) ∧ ∃ n, w' = w.drewN n := by
  go_enter Try.func31, Try.ntmps31
  go_wp2
  go_quiet ((go_at_call 35; exact Calls.quiet_of_same (place_3 _)))
  go_wp2
  go_ret
  exact ⟨rfl, _, rfl⟩

theorem ours_no (b : Nat) (opt : Int) (h1 : (opt == 1) = false) (h3 : (opt == 3) = false) (w : World) : Calls Try.prog 31 #[.pointer (some ⟨b, 0, none⟩), .int .i64 opt] w fun e w' => e = .returned (.pointer none) ∧ ∃ n, w' = w.drewN n := by
  go_enter Try.func31, Try.ntmps31
  go_wp2
  go_ret
  exact ⟨rfl, 0, rfl⟩

theorem theirs_3 (b : Nat) (w : World) : Calls Try.prog 32 #[.pointer (some ⟨b, 0, none⟩), .int .i64 3] w fun e w' => e = .returned (.pointer (some ⟨b, 7, none⟩)) ∧ ∃ n, w' = w.drewN n := by
  go_enter Try.func32, Try.ntmps32
  go_wp2
  go_quiet ((go_at_call 35; exact Calls.quiet_of_same (place_3 _)))
  go_wp2
  go_ret
  exact ⟨rfl, _, rfl⟩

theorem theirs_31 (b : Nat) (w : World) : Calls Try.prog 32 #[.pointer (some ⟨b, 0, none⟩), .int .i64 31] w fun e w' => e = .returned (.pointer (some ⟨b, 8, none⟩)) ∧ ∃ n, w' = w.drewN n := by
  go_enter Try.func32, Try.ntmps32
  go_wp2
  go_quiet ((go_at_call 35; exact Calls.quiet_of_same (place_31 _)))
  go_wp2
  go_ret
  exact ⟨rfl, _, rfl⟩

theorem theirs_no (b : Nat) (opt : Int) (h1 : (opt == 3) = false) (h3 : (opt == 31) = false) (w : World) : Calls Try.prog 32 #[.pointer (some ⟨b, 0, none⟩), .int .i64 opt] w fun e w' => e = .returned (.pointer none) ∧ ∃ n, w' = w.drewN n := by
  go_enter Try.func32, Try.ntmps32
  go_wp2
  go_ret
  exact ⟨rfl, 0, rfl⟩

theorem state_any (s : Int) (k : Bool) (w : World) : Calls Try.prog 36 #[.int .i64 s, .bool k] w fun e w' => e = .returned (.bool (gs s k)) ∧ w' = w := by
  by_cases h0 : s = 0
  · subst h0
    go_enter Try.func36, Try.ntmps36
    go_wp2
    go_ret
    exact ⟨rfl, rfl⟩
  · have e0 : (s == 0) = false := by simpa using h0
    by_cases h1 : s = 1
    · subst h1
      go_enter Try.func36, Try.ntmps36
      go_wp2
      go_ret
      exact ⟨by simp [gs], rfl⟩
    · have e1 : (s == 1) = false := by simpa using h1
      by_cases h2 : s = 2
      · subst h2
        go_enter Try.func36, Try.ntmps36
        go_wp2
        go_ret
        exact ⟨by simp [gs], rfl⟩
      · have e2 : (s == 2) = false := by simpa using h2
        have HG : Hid (gs s k = false) := by unfold gs; rw [e0, e1, e2]; rfl
        go_enter Try.func36, Try.ntmps36
        go_wp2
        go_ret
        exact ⟨ret_bool HG.out.symm, rfl⟩

theorem gplace_any (t : Tel) (w : World) (hs : t.sub.size ≤ maxLen) : Calls Try.prog 28 #[t.val] w fun e w' => e = .returned (.bool (gplace t)) ∧ Below w.heap.size w w' := by
  unfold maxLen at hs
  unfold Tel.val Tel.cells
  go_enter Try.func28, Try.ntmps28
  go_wp2
  all_goals go_ret
  all_goals refine ⟨ret_bool ?_, (Below.refl _ _).alloc (Nat.le_refl _) _⟩
  all_goals unfold gplace
  all_goals repeat' split
  all_goals first | rfl | omega | (simp_all; done) | (simp_all; omega)

end Go.Proofs.Ytbjcmnemcgadjaa
