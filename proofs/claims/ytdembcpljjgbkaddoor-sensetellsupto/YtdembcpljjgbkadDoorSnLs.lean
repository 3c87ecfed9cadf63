/-
  Whether sense answers at all: the law's own question.
-/
import Derived.Test.YtdembcpljjgbkadDoorSnTell2
namespace Go.Proofs.YtdembcpljjgbkadDoor
open Go.RowKit
set_option linter.unusedVariables false

set_option maxRecDepth 100000 in
set_option maxHeartbeats 1000000 in
theorem lsenses_any (w : World) (hv : Vb w) (hai : Ai w) : Calls Tryd.prog 23 #[] w fun e w' => e = .returned (.bool true) ∧ Below w.heap.size w w' := by
  have HV := hide hv
  have HAi := hide hai
  have C := hide (fun W => all_any nl ev0 W)
  clear hv hai
  go_enter Tryd.func23, Tryd.ntmps23
  go_wp2_with fail
  refine (new_any _).mono ?_
  rintro e w1 ⟨rfl, hb1⟩
  have B1 := hide hb1
  clear hb1
  go_wp2_with fail
  refine (C.out _).mono ?_
  rintro e w2 ⟨rfl, hb2⟩
  have B2 := hide (B1.out.trans (hb2.mono B1.out.size))
  clear hb2
  have B3 : Hid (Below w.heap.size w (w2.alloc (.cells (allE nl ev0).cells 48))) := B2.out.alloc B2.out.size _
  have kr : (w2.alloc (.cells (allE nl ev0).cells 48)).cell? ⟨w2.heap.size, 11, none⟩ = some (.int .i64 0) := by
    have := (cev_new w2 (allE nl ev0)).by' 1 (by omega)
    rw [ev0_rat] at this; exact this
  go_wp2_with (first | (refine wl_new 48 (.tmp 1) (.tmp 6) rfl rfl _ (allE nl ev0).cells rfl rfl rfl Tryd.sizeEvent rfl (Ev.one _) ?_) | (refine wl_event (.tmp 1) rfl rfl _ (allE nl ev0) rfl (cev_new w2 _) ?_))
  refine (tell_fit (allE nl ev0) 0 _ (HV.out.below B3.out (Nat.le_refl _)) (HAi.out.below B3.out) ev0_fit).mono ?_
  rintro e w3 ⟨rfl, hb3⟩
  rw [ev0_said]
  have kr3 : w3.cell? ⟨w2.heap.size, 11, none⟩ = some (.int .i64 0) := by rw [hb3.cell (cell_lt kr)]; exact kr
  have B4 := hide (B3.out.trans (hb3.mono B3.out.size))
  clear hb3 kr
  go_wp2
  go_ret
  exact ⟨rfl, B4.out⟩
end Go.Proofs.YtdembcpljjgbkadDoor
