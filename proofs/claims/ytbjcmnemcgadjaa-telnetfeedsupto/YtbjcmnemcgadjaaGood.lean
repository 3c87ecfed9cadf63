/-
  Contracts of Good and goodOptions of package telnet.
-/
import Derived.Test.YtbjcmnemcgadjaaLeaf
namespace Go.Proofs.Ytbjcmnemcgadjaa
open Go.RowKit

theorem quiet_of2 {P : Program} {f : FuncId} {args : Array Value} {w : World} {q n : Nat} {v : Value}
    (h : Calls P f args (w.drewN (q + n)) fun e w' => e = .returned v ∧ ∃ m, w' = (w.drewN (q + n)).drewN m) : Calls P f args (w.drewN (q + n)) fun e w'' => e = .returned v ∧ ∃ m, w'' = w.drewN (q + m) :=
  h.mono fun _ _ ⟨he, m, hm⟩ => ⟨he, n + m, by rw [hm, World.drewN_drewN, Nat.add_assoc]⟩

theorem quiet_of_same2 {P : Program} {f : FuncId} {args : Array Value} {w : World} {q n : Nat} {v : Value}
    (h : Calls P f args (w.drewN (q + n)) fun e w' => e = .returned v ∧ w' = w.drewN (q + n)) : Calls P f args (w.drewN (q + n)) fun e w'' => e = .returned v ∧ ∃ m, w'' = w.drewN (q + m) :=
  h.mono fun _ _ ⟨he, hm⟩ => ⟨he, n, hm⟩

set_option maxRecDepth 100000 in
set_option maxHeartbeats 400000 in
theorem gopt_any (t : Tel) (w : World) : Calls Try.prog 29 #[t.val] w fun e w' => e = .returned (.bool (gopt t)) ∧ Below w.heap.size w w' := by
  have i0 : ∀ w, (Instr.index 23 (.agg #[.int .i64 1, .int .i64 3, .int .i64 31]) (.int .i64 0)).run Try.prog w = .ok (.int .i64 1) w := fun _ => by kernel_rfl
  have i1 : ∀ w, (Instr.index 23 (.agg #[.int .i64 1, .int .i64 3, .int .i64 31]) (.int .i64 1)).run Try.prog w = .ok (.int .i64 3) w := fun _ => by kernel_rfl
  have i2 : ∀ w, (Instr.index 23 (.agg #[.int .i64 1, .int .i64 3, .int .i64 31]) (.int .i64 2)).run Try.prog w = .ok (.int .i64 31) w := fun _ => by kernel_rfl
  unfold Tel.val Tel.cells
  go_enter Try.func29, Try.ntmps29
  go_wp2
  refine wp_loop_rounds 4 ?_
  rw [rounds_succ]
  go_wp2_with (go_at_call 35; refine (place_1 _).mono ?_; rintro e w' ⟨rfl, rfl⟩)
  cases g1 : gs t.u0 true
  · have HF : Hid (gopt t = false) := (by simp [gopt, g1] : gopt t = false)
    go_quiet ((first | (go_at_call 31; exact Calls.quiet_of (ours_1 _ _)) | (go_at_call 32; exact Calls.quiet_of (theirs_no _ _ rfl rfl _)) | (go_at_call 36; exact Calls.quiet_of_same (state_any _ _ _))))
    go_wp2
    go_ret
    exact ⟨ret_bool HF.out.symm, by repeat (first | exact Below.refl _ _ | refine below_drewN ?_ _ | refine Below.alloc ?_ (by simp) _)⟩
  cases g2 : gs t.t0 false
  · have HF : Hid (gopt t = false) := (by simp [gopt, g1, g2] : gopt t = false)
    go_quiet ((first | (go_at_call 31; exact Calls.quiet_of (ours_1 _ _)) | (go_at_call 32; exact Calls.quiet_of (theirs_no _ _ rfl rfl _)) | (go_at_call 36; exact Calls.quiet_of_same (state_any _ _ _))))
    go_wp2
    go_ret
    exact ⟨ret_bool HF.out.symm, by repeat (first | exact Below.refl _ _ | refine below_drewN ?_ _ | refine Below.alloc ?_ (by simp) _)⟩
  go_quiet ((first | (go_at_call 31; exact Calls.quiet_of (ours_1 _ _)) | (go_at_call 32; exact Calls.quiet_of (theirs_no _ _ rfl rfl _)) | (go_at_call 36; exact Calls.quiet_of_same (state_any _ _ _))))
  go_wp2
  rw [rounds_succ]
  go_wp2_with (go_at_call 35; refine (place_3 _).mono ?_; rintro e w' ⟨rfl, rfl⟩)
  cases g3 : gs t.u1 true
  · have HF : Hid (gopt t = false) := (by simp [gopt, g1, g2, g3] : gopt t = false)
    go_quiet ((first | (go_at_call 31; exact quiet_of2 (ours_3 _ _)) | (go_at_call 32; exact quiet_of2 (theirs_3 _ _)) | (go_at_call 36; exact quiet_of_same2 (state_any _ _ _))))
    go_wp2
    go_ret
    exact ⟨ret_bool HF.out.symm, by repeat (first | exact Below.refl _ _ | refine below_drewN ?_ _ | refine Below.alloc ?_ (by simp) _)⟩
  cases g4 : gs t.t1 true
  · have HF : Hid (gopt t = false) := (by simp [gopt, g1, g2, g3, g4] : gopt t = false)
    go_quiet ((first | (go_at_call 31; exact quiet_of2 (ours_3 _ _)) | (go_at_call 32; exact quiet_of2 (theirs_3 _ _)) | (go_at_call 36; exact quiet_of_same2 (state_any _ _ _))))
    go_wp2
    go_ret
    exact ⟨ret_bool HF.out.symm, by repeat (first | exact Below.refl _ _ | refine below_drewN ?_ _ | refine Below.alloc ?_ (by simp) _)⟩
  go_quiet ((first | (go_at_call 31; exact quiet_of2 (ours_3 _ _)) | (go_at_call 32; exact quiet_of2 (theirs_3 _ _)) | (go_at_call 36; exact quiet_of_same2 (state_any _ _ _))))
  go_wp2
  rw [rounds_succ]
  go_wp2_with (go_at_call 35; refine (place_31 _).mono ?_; rintro e w' ⟨rfl, rfl⟩)
  cases g5 : gs t.u2 false
  · have HF : Hid (gopt t = false) := (by simp [gopt, g1, g2, g3, g4, g5] : gopt t = false)
    go_quiet ((first | (go_at_call 31; exact quiet_of2 (ours_no _ _ rfl rfl _)) | (go_at_call 32; exact quiet_of2 (theirs_31 _ _)) | (go_at_call 36; exact quiet_of_same2 (state_any _ _ _))))
    go_wp2
    go_ret
    exact ⟨ret_bool HF.out.symm, by repeat (first | exact Below.refl _ _ | refine below_drewN ?_ _ | refine Below.alloc ?_ (by simp) _)⟩
  cases g6 : gs t.t2 true
  · have HF : Hid (gopt t = false) := (by simp [gopt, g1, g2, g3, g4, g5, g6] : gopt t = false)
    go_quiet ((first | (go_at_call 31; exact quiet_of2 (ours_no _ _ rfl rfl _)) | (go_at_call 32; exact quiet_of2 (theirs_31 _ _)) | (go_at_call 36; exact quiet_of_same2 (state_any _ _ _))))
    go_wp2
    go_ret
    exact ⟨ret_bool HF.out.symm, by repeat (first | exact Below.refl _ _ | refine below_drewN ?_ _ | refine Below.alloc ?_ (by simp) _)⟩
  go_quiet ((first | (go_at_call 31; exact quiet_of2 (ours_no _ _ rfl rfl _)) | (go_at_call 32; exact quiet_of2 (theirs_31 _ _)) | (go_at_call 36; exact quiet_of_same2 (state_any _ _ _))))
  go_wp2
  rw [rounds_succ]
  have HF : Hid (gopt t = true) := (by simp [gopt, g1, g2, g3, g4, g5, g6] : gopt t = true)
  go_wp2
  go_ret
  exact ⟨ret_bool HF.out.symm, by repeat (first | exact Below.refl _ _ | refine below_drewN ?_ _ | refine Below.alloc ?_ (by simp) _)⟩

end Go.Proofs.Ytbjcmnemcgadjaa
