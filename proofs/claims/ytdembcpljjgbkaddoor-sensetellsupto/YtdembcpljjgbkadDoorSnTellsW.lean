/-
  The law SenseTells: Tell against the document's own answer.
-/
import Derived.Test.YtdembcpljjgbkadDoorSnTkZ
import Derived.Test.YtdembcpljjgbkadDoorSnLs
namespace Go.Proofs.YtdembcpljjgbkadDoor
open Go.RowKit
set_option linter.unusedVariables false

set_option maxRecDepth 100000 in
set_option maxHeartbeats 1000000 in
theorem tellsW (E : Ev) (b : Int) (w : World) (hv : Vb w) (hvr : Vr w) (hai : Ai w) (hit : It w) (h : Fit E) :
    Calls Tryd.prog 7 #[.agg E.cells, .int .i64 b] w fun e w' => e = .returned (.bool true) ∧ Below w.heap.size w w' := by
  have HV := hide hv
  have HVr := hide hvr
  have HAi := hide hai
  have HIt := hide hit
  have CT := hide (fun W hv hai => tell_fit E b W hv hai h)
  have CR := hide (fun W hvr hit => tellof_any E b W hvr hit h)
  have P0 := hide (tv_start E w)
  clear hv hvr hai hit h
  generalize tellL E b = t at *
  cases t with
  | none =>
    go_enter Tryd.func7, Tryd.ntmps7
    go_wp2_with (refine wl_event (.tmp 2) rfl rfl _ E rfl P0.out.cev ?_)
    refine (CT.out _ (HV.out.below P0.out.low (Nat.le_refl _)) (HAi.out.below P0.out.low)).mono ?_
    rintro e w1 ⟨rfl, hb⟩
    have K1 := hide (P0.out.cev.behind hb (Nat.le_refl _))
    have L1 := hide (P0.out.low.trans (hb.mono P0.out.low.size))
    clear hb
    unfold tellA
    go_wp2_with (refine wl_event (.tmp 2) rfl rfl _ E rfl K1.out ?_)
    refine (CR.out _ (HVr.out.below L1.out (Nat.le_refl _)) (HIt.out.below L1.out)).mono ?_
    rintro e w2 ⟨rfl, hb⟩
    have L2 := hide (L1.out.trans (hb.mono L1.out.size))
    clear hb
    unfold tellA
    go_wp2_with fail
    refine (lsenses_any _ (HV.out.below L2.out (Nat.le_refl _)) (HAi.out.below L2.out)).mono ?_
    rintro e w3 ⟨rfl, hb⟩
    have L3 := hide (L2.out.trans (hb.mono L2.out.size))
    clear hb
    go_wp2
    go_ret
    exact ⟨rfl, L3.out⟩
  | some l =>
    go_enter Tryd.func7, Tryd.ntmps7
    go_wp2_with (refine wl_event (.tmp 2) rfl rfl _ E rfl P0.out.cev ?_)
    refine (CT.out _ (HV.out.below P0.out.low (Nat.le_refl _)) (HAi.out.below P0.out.low)).mono ?_
    rintro e w1 ⟨rfl, hb⟩
    have K1 := hide (P0.out.cev.behind hb (Nat.le_refl _))
    have L1 := hide (P0.out.low.trans (hb.mono P0.out.low.size))
    clear hb
    unfold tellA
    go_wp2_with (refine wl_event (.tmp 2) rfl rfl _ E rfl K1.out ?_)
    refine (CR.out _ (HVr.out.below L1.out (Nat.le_refl _)) (HIt.out.below L1.out)).mono ?_
    rintro e w2 ⟨rfl, hb⟩
    have L2 := hide (L1.out.trans (hb.mono L1.out.size))
    clear hb
    unfold tellA
    go_wp2_with fail
    refine (lsenses_any _ (HV.out.below L2.out (Nat.le_refl _)) (HAi.out.below L2.out)).mono ?_
    rintro e w3 ⟨rfl, hb⟩
    have L3 := hide (L2.out.trans (hb.mono L2.out.size))
    clear hb
    go_wp2
    go_ret
    exact ⟨rfl, L3.out⟩
end Go.Proofs.YtdembcpljjgbkadDoor
