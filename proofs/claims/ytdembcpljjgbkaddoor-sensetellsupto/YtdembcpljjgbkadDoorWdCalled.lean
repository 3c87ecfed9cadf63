/-
  The contract of Called.
-/
import Derived.Test.YtdembcpljjgbkadDoorWdMem
namespace Go.Proofs.YtdembcpljjgbkadDoor
open Go.RowKit
set_option linter.unusedVariables false

def calledI (d : Int) : List UInt8 := if 0 ≤ d then calledL d.toNat else []
theorem calledI_nat (k : Nat) : calledI k = calledL k := by simp [calledI]

set_option maxHeartbeats 1000000 in
theorem called_any (d : Int) (w : World) (hv : Vb w) : Calls Tryd.prog 31 #[.int .i64 d] w fun e w' => e = .returned (.string (bs (calledI d))) ∧ w' = w := by
  by_cases h0 : 0 ≤ d
  · obtain ⟨k, rfl⟩ : ∃ k : Nat, d = k := ⟨d.toNat, by omega⟩
    by_cases h6 : k < 6
    · have hc := hv.cell k (by omega)
      have HV := hide (show calledI (k : Int) = verbs.getD k [] by simp [calledI, calledL, h6])
      clear hv
      go_enter Tryd.func31, Tryd.ntmps31
      go_wp2
      go_ret
      exact ⟨ret_str (by rw [HV.out]; simp), rfl⟩
    · have HV := hide (show calledI (k : Int) = [] by simp [calledI, calledL, h6])
      clear hv
      go_enter Tryd.func31, Tryd.ntmps31
      go_wp2
      go_ret
      exact ⟨ret_str (by rw [HV.out]; rfl), rfl⟩
  · have HV := hide (show calledI d = [] by simp [calledI, h0])
    clear hv
    go_enter Tryd.func31, Tryd.ntmps31
    go_wp2
    go_ret
    exact ⟨ret_str (by rw [HV.out]; rfl), rfl⟩
end Go.Proofs.YtdembcpljjgbkadDoor
