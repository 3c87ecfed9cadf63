/-
  The contracts of strings.TrimLeft and Trim, at spaces.
-/
import Derived.Test.YtfbgaimjjfmfaacDoorWdTrim
namespace Go.Proofs.YtfbgaimjjfmfaacDoor
open Go.RowKit
set_option linter.unusedVariables false

theorem isEmpty_nil {s : ByteArray} (h : s.toList.isEmpty = true) : s.data.toList = [] := by
  rw [Lib.toList_data] at h; exact List.isEmpty_iff.1 h

set_option maxHeartbeats 1000000 in
set_option maxRecDepth 100000 in
theorem trimleft_any (s : ByteArray) (w : World) (hs : s.size ≤ 140737488355328) :
    Calls Tryd.prog 29 #[.string s, .string ⟨#[32]⟩] w fun e w' => e = .returned (.string (bs (trimL s.data.toList))) ∧ w' = w := by
  cases h0 : s.toList.isEmpty
  · go_enter Tryd.func29, Tryd.ntmps29
    go_wp2_with (go_at_call 37; refine (tlbyte_any s _ hs).mono ?_; rintro e w' ⟨rfl, rfl⟩)
    go_ret
    exact ⟨rfl, rfl⟩
  · have HE := hide (isEmpty_nil h0)
    go_enter Tryd.func29, Tryd.ntmps29
    go_wp2
    go_ret
    refine ⟨ret_str ?_, rfl⟩
    rw [HE.out]; show s = bs []; rw [← HE.out, bs_of]

set_option maxHeartbeats 2000000 in
set_option maxRecDepth 100000 in
theorem trim_any (s : ByteArray) (w : World) (hs : s.size ≤ 140737488355328) :
    Calls Tryd.prog 30 #[.string s, .string ⟨#[32]⟩] w fun e w' => e = .returned (.string (bs (trimL (trimR s.data.toList)))) ∧ ∃ n, w' = w.drewN n := by
  cases h0 : s.toList.isEmpty
  · have hb : (bs (trimR s.data.toList)).size ≤ 140737488355328 := by
      rw [bs_size]; have := trimR_len s.data.toList; rw [size_len] at this; omega
    have C1 := hide (fun w' => trbyte_any s w' hs)
    have C2 := hide (fun w' => tlbyte_any (bs (trimR s.data.toList)) w' hb)
    rw [bs_data] at C2
    clear hb
    go_enter Tryd.func30, Tryd.ntmps30
    go_wp2
    go_region_with (first | (go_at_call 41; refine (C1.out _).mono ?_; rintro e w' ⟨rfl, rfl⟩) | (go_at_call 37; refine (C2.out _).mono ?_; rintro e w' ⟨rfl, rfl⟩))
    all_goals go_wp2
    all_goals go_ret
    all_goals exact ⟨rfl, _, rfl⟩
  · have HE := hide (isEmpty_nil h0)
    go_enter Tryd.func30, Tryd.ntmps30
    go_wp2
    go_ret
    refine ⟨ret_str ?_, 0, rfl⟩
    rw [HE.out]; show s = bs []; rw [← HE.out, bs_of]
end Go.Proofs.YtfbgaimjjfmfaacDoor
