/-
  Whether somebody has that name: the contract.
-/
import Derived.Test.YtaifjndkgfffpaaDoorRuNamed
import Derived.Test.YtaifjndkgfffpaaDoorMgF
namespace Go.Proofs.YtaifjndkgfffpaaDoor
open Go.RowKit
set_option linter.unusedVariables false

def hasName (L : Ld) (nm : ByteArray) (b : Nat) : Bool := L.here b && decide (L.bname b = nm)
/-- Whether somebody who is about has that name. -/
def takenL (L : Ld) (nm : ByteArray) : Bool := (List.range 6).any (hasName L nm)

set_option maxRecDepth 100000 in
set_option maxHeartbeats 2000000 in
theorem rtaken_any (L : Ld) (nm : ByteArray) (w : World) : Calls Tryd.prog 22 #[.agg L.cells, .string nm] w fun e w' => e = .returned (.bool (takenL L nm)) ∧ Below w.heap.size w w' := by
  go_enter Tryd.func22, Tryd.ntmps22
  go_wp2_with (refine wl_beings (.tmp 7) rfl rfl _ L rfl (cod_new w L) ?_)
  go_loopw [9] (fun c wr => ∃ k : Nat, k ≤ 6 ∧ c = .int .i64 k ∧ Below w.heap.size w wr ∧ ∀ r, r < k → hasName L nm r = false) (fun c _ => 6 - (intOf c).toNat)
  case atStart => exact ⟨0, by omega, rfl, below_box w _, fun r h => by omega⟩
  case round =>
    obtain ⟨k, hle, rfl, R, hall⟩ := hrel
    have HR := hide R
    have HA := hide hall
    clear R hall
    by_cases hk : k < 6
    · have B1 := hide (HR.out.alloc HR.out.size (.cells (L.bcells k) 31))
      have G := heap_alloc_new wr (.cells (L.bcells k) 31)
      have g0 : (wr.alloc (.cells (L.bcells k) 31)).cell? ⟨wr.heap.size, 0, none⟩ = some (.string (L.bname k)) := by rw [cell_of_row _ _ _ _ _ _ G]; rfl
      have g1 : (wr.alloc (.cells (L.bcells k) 31)).cell? ⟨wr.heap.size, 1, none⟩ = some (.bool (L.here k)) := by rw [cell_of_row _ _ _ _ _ _ G]; rfl
      clear G
      have hte := toList_eq (a := L.bname k) (b := nm)
      cases hh : L.here k with
      | false =>
        have HN := hide (show ∀ r, r < k + 1 → hasName L nm r = false from fun r hr => by
          rcases Nat.lt_or_ge r k with h | h
          · exact HA.out r h
          · rw [show r = k by omega]; unfold hasName; rw [hh]; rfl)
        rw [hh] at g1
        clear hh
        go_wp2_with (first | (refine wl_ibeing (.tmp 8) (.tmp 9) rfl rfl k L rfl rfl hk ?_) | (refine wl_newB (.tmp 6) (.tmp 11) rfl rfl _ k L rfl rfl rfl rfl ?_))
        go_roundw
        case rel => exact ⟨k + 1, by omega, by go_num, B1.out, HN.out⟩
        case measure => simp [intOf]; omega
      | true =>
        rw [hh] at g1
        by_cases hn : L.bname k = nm
        · have HV := hide (show takenL L nm = true by
            unfold takenL
            rw [List.any_eq_true]
            exact ⟨k, List.mem_range.2 hk, by unfold hasName; rw [hh, decide_eq_true hn]; rfl⟩)
          have hb : ((L.bname k).toList == nm.toList) = true := by rw [hte]; exact decide_eq_true hn
          clear hh hn hte
          go_wp2_with (first | (refine wl_ibeing (.tmp 8) (.tmp 9) rfl rfl k L rfl rfl hk ?_) | (refine wl_newB (.tmp 6) (.tmp 11) rfl rfl _ k L rfl rfl rfl rfl ?_))
          go_ret
          exact ⟨ret_bool HV.out.symm, B1.out⟩
        · have HN := hide (show ∀ r, r < k + 1 → hasName L nm r = false from fun r hr => by
            rcases Nat.lt_or_ge r k with h | h
            · exact HA.out r h
            · rw [show r = k by omega]; unfold hasName; rw [hh, decide_eq_false hn]; rfl)
          have hb : ((L.bname k).toList == nm.toList) = false := by rw [hte]; exact decide_eq_false hn
          clear hh hn hte
          go_wp2_with (first | (refine wl_ibeing (.tmp 8) (.tmp 9) rfl rfl k L rfl rfl hk ?_) | (refine wl_newB (.tmp 6) (.tmp 11) rfl rfl _ k L rfl rfl rfl rfl ?_))
          go_roundw
          case rel => exact ⟨k + 1, by omega, by go_num, B1.out, HN.out⟩
          case measure => simp [intOf]; omega
    · have hkk : k = 6 := by omega
      subst hkk
      have HV := hide (show takenL L nm = false by
        unfold takenL
        rw [List.any_eq_false]
        intro r hr
        rw [HA.out r (List.mem_range.1 hr)]; simp)
      go_wp2
      go_ret
      exact ⟨ret_bool HV.out.symm, HR.out⟩
end Go.Proofs.YtaifjndkgfffpaaDoor
