/-
  The contract of Good of package telnet.
-/
import Derived.Test.YtbjcmnemcgadjaaGood
namespace Go.Proofs.Ytbjcmnemcgadjaa
open Go.RowKit

theorem bcell {W w1 : World} (hb : Below W.heap.size W w1) : (∀ b o, b < W.heap.size → w1.cell? ⟨b, o, none⟩ = W.cell? ⟨b, o, none⟩) ∧ (∀ b o, b < W.heap.size → w1.frozen? ⟨b, o, none⟩ = W.frozen? ⟨b, o, none⟩) :=
  ⟨fun b o h => hb.cell (p := ⟨b, o, none⟩) h, fun b o h => hb.frozen (p := ⟨b, o, none⟩) h⟩

set_option maxRecDepth 100000 in
set_option maxHeartbeats 400000 in
theorem good_any (t : Tel) (w : World) (hs : t.sub.size ≤ maxLen) : Calls Try.prog 11 #[t.val] w fun e w' => e = .returned (.bool (good t)) ∧ Below w.heap.size w w' := by
  unfold Tel.val Tel.cells
  cases g1 : gplace t
  · have HF : Hid (good t = false) := (by simp [good, g1] : good t = false)
    go_enter Try.func11, Try.ntmps11
    go_wp2_with (go_at_call 28; refine (gplace_any t _ hs).mono ?_; rintro e w1 ⟨rfl, hb1⟩)
    go_ret
    exact ⟨ret_bool HF.out.symm, ((Below.refl _ _).alloc (Nat.le_refl _) _).trans (hb1.mono (by simp))⟩
  cases g2 : gopt t
  · have HF : Hid (good t = false) := (by simp [good, g1, g2] : good t = false)
    go_enter Try.func11, Try.ntmps11
    go_wp2_with (first | (go_at_call 28; refine (gplace_any t _ hs).mono ?_; rintro e w1 ⟨rfl, hb1⟩; obtain ⟨hc1, hf1⟩ := bcell hb1) | (go_at_call 29; refine (gopt_any t _).mono ?_; rintro e w2 ⟨rfl, hb2⟩; obtain ⟨hc2, hf2⟩ := bcell hb2))
    go_ret
    exact ⟨ret_bool HF.out.symm, (((Below.refl _ _).alloc (Nat.le_refl _) _).trans (hb1.mono (by simp))).trans (hb2.mono (by have := hb1.size; simp at this; omega))⟩
  have HF : Hid (good t = (decide (0 ≤ t.height) && decide (t.height ≤ 200))) := (by simp [good, g1, g2] : good t = (decide (0 ≤ t.height) && decide (t.height ≤ 200)))
  go_enter Try.func11, Try.ntmps11
  go_wp2_with (first | (go_at_call 28; refine (gplace_any t _ hs).mono ?_; rintro e w1 ⟨rfl, hb1⟩; obtain ⟨hc1, hf1⟩ := bcell hb1; have hz1 : w.heap.size < w1.heap.size := (by have := hb1.size; simp at this; omega)) | (go_at_call 29; refine (gopt_any t _).mono ?_; rintro e w2 ⟨rfl, hb2⟩; obtain ⟨hc2, hf2⟩ := bcell hb2))
  all_goals go_ret
  all_goals refine ⟨ret_bool ?_, (((Below.refl _ _).alloc (Nat.le_refl _) _).trans (hb1.mono (by simp))).trans (hb2.mono (by have := hb1.size; simp at this; omega))⟩
  all_goals rw [HF.out]
  all_goals first | (simp_all; done) | (simp_all; omega)
end Go.Proofs.Ytbjcmnemcgadjaa
