/-
  The document's own TellOf: its contract.
-/
import Derived.Test.YtdembcpljjgbkadDoorSnTkA
import Derived.Test.YtdembcpljjgbkadDoorSnTkB
import Derived.Test.YtdembcpljjgbkadDoorSnTkC
import Derived.Test.YtdembcpljjgbkadDoorSnTkD
import Derived.Test.YtdembcpljjgbkadDoorSnTkE
import Derived.Test.YtdembcpljjgbkadDoorSnTkF
namespace Go.Proofs.YtdembcpljjgbkadDoor
open Go.RowKit
set_option linter.unusedVariables false

set_option maxRecDepth 100000 in
set_option maxHeartbeats 8000000 in
theorem tellof_any (E : Ev) (b : Int) (w : World) (hvr : Vr w) (hit : It w) (hF : Fit E) :
    Calls Tryd.prog 25 #[.agg E.cells, .int .i64 b] w fun e w' => e = .returned (tellA (tellL E b)) ∧ Below w.heap.size w w' := by
  have HVr := hide hvr
  have HIt := hide hit
  have HF := hide hF
  have hmf : ∀ (fn : Fn) (first cap : Array Value) (w : World), (Instr.makeFunc fn first cap).run Tryd.prog w = .ok (.func fn first cap) w := fun _ _ _ _ => rfl
  have P0 := hide (tv_start E w)
  clear hvr hit hF
  by_cases hb0 : 0 ≤ b
  · obtain ⟨k, rfl⟩ := Int.eq_ofNat_of_zero_le hb0
    by_cases hk6 : k < 6
    · have kb := P0.out.cev.by' k hk6
      have ham : amg (k : Int) 6 = true := amg_mk (by omega) (by omega)
      cases h1 : bitB (E.by' k) 1 with
      | false =>
        have HT := hide (tell_none (E := E) (b := (k : Int)) (.inr (.inl h1)))
        have f1 : ((E.by' k).tmod 2 == 0) = true := by
          have : bits .and .i64 (E.by' k) 1 = 0 := by unfold bitB at h1; simpa using h1
          rw [and_one] at this; simp [this]
        clear h1 ham
        go_enter Tryd.func25, Tryd.ntmps25
        go_wp2
        go_ret2
        exact ⟨ret_any (by rw [HT.out]; rfl), P0.out.low⟩
      | true =>
        by_cases hN : (k : Int) = E.actor
        · by_cases hK : E.kind ≤ 9
          · by_cases hJ : E.kind ≤ 4
            · exact tellof_a E k hk6 w HVr.out HIt.out HF.out h1 hN hJ
            · exact tellof_e E k hk6 w HVr.out HIt.out HF.out h1 hN ⟨hJ, hK⟩
          · exact tellof_b E k hk6 w HVr.out HIt.out HF.out h1 hN hK
        · by_cases hK : E.kind ≤ 9
          · by_cases hJ : E.kind ≤ 4
            · exact tellof_c E k hk6 w HVr.out HIt.out HF.out h1 hN hJ
            · exact tellof_f E k hk6 w HVr.out HIt.out HF.out h1 hN ⟨hJ, hK⟩
          · exact tellof_d E k hk6 w HVr.out HIt.out HF.out h1 hN hK
    · have HT := hide (tell_none (E := E) (b := (k : Int)) (.inl (amg_no (by omega))))
      go_enter Tryd.func25, Tryd.ntmps25
      go_wp2
      go_ret2
      exact ⟨ret_any (by rw [HT.out]; rfl), P0.out.low⟩
  · have HT := hide (tell_none (E := E) (b := b) (.inl (amg_no (by omega))))
    go_enter Tryd.func25, Tryd.ntmps25
    go_wp2
    go_ret2
    exact ⟨ret_any (by rw [HT.out]; rfl), P0.out.low⟩
end Go.Proofs.YtdembcpljjgbkadDoor
