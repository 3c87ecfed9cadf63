/-
  The document's verbs in their memory; the contract of its CalledOf.
-/
import Derived.Test.YtdembcpljjgbkadDoorWdCalled
namespace Go.Proofs.YtdembcpljjgbkadDoor
open Go.RowKit
set_option linter.unusedVariables false

/-- The document's verbs lie where they were laid. -/
def Vr (w : World) : Prop := ∃ t fr, w.heap[(1 : Nat)]? = some (.cells vcells t fr)
theorem Vr.lt {w : World} (h : Vr w) : 1 < w.heap.size := by
  obtain ⟨t, fr, h⟩ := h; exact (Array.getElem?_eq_some_iff.1 h).1
theorem Vr.below {w w' : World} {B : Nat} (h : Vr w) (hb : Below B w w') (hB : w.heap.size ≤ B) : Vr w' := by
  have hlt := h.lt
  obtain ⟨t, fr, h⟩ := h
  exact ⟨t, fr, by rw [hb.block _ (by omega)]; exact h⟩
theorem Vr.cell {w : World} (h : Vr w) (i : Nat) (hi : i < 21) : w.cell? ⟨1, i, none⟩ = some (.string (bs (verbs.getD i []))) := by
  obtain ⟨t, fr, h⟩ := h
  simp only [World.cell?, h]
  exact vcells_get i hi

set_option maxHeartbeats 1000000 in
theorem calledof_any (d : Int) (w : World) (hv : Vr w) : Calls Tryd.prog 43 #[.int .i64 d] w fun e w' => e = .returned (.string (bs (calledI d))) ∧ w' = w := by
  by_cases h0 : 0 ≤ d
  · obtain ⟨k, rfl⟩ : ∃ k : Nat, d = k := ⟨d.toNat, by omega⟩
    by_cases h6 : k < 6
    · have hc := hv.cell k (by omega)
      have HV := hide (show calledI (k : Int) = verbs.getD k [] by simp [calledI, calledL, h6])
      clear hv
      go_enter Tryd.func43, Tryd.ntmps43
      go_wp2
      go_ret
      exact ⟨ret_str (by rw [HV.out]; simp), rfl⟩
    · have HV := hide (show calledI (k : Int) = [] by simp [calledI, calledL, h6])
      clear hv
      go_enter Tryd.func43, Tryd.ntmps43
      go_wp2
      go_ret
      exact ⟨ret_str (by rw [HV.out]; rfl), rfl⟩
  · have HV := hide (show calledI d = [] by simp [calledI, h0])
    clear hv
    go_enter Tryd.func43, Tryd.ntmps43
    go_wp2
    go_ret
    exact ⟨ret_str (by rw [HV.out]; rfl), rfl⟩
end Go.Proofs.YtdembcpljjgbkadDoor
