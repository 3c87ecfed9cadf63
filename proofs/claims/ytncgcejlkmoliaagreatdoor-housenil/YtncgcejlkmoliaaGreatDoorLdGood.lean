/-
  Good: its contract.
-/
import Derived.Test.YtncgcejlkmoliaaGreatDoorLdGr
import Derived.Test.YtncgcejlkmoliaaGreatDoorLdGp
import Derived.Test.YtncgcejlkmoliaaGreatDoorLdIn
import Derived.Test.YtncgcejlkmoliaaGreatDoorLdArm2
namespace Go.Proofs.YtncgcejlkmoliaaGreatDoor
open Go.RowKit
set_option linter.unusedVariables false

def goodR (L : Ld) (r : Nat) : Bool := groom (L.exit r) (L.shut r)
def goodB (L : Ld) (b : Nat) : Bool := gbeing (L.here b) (L.room b) (L.health b) (L.foe b)
def goodT (L : Ld) (i : Nat) : Bool := gkind (L.kind i) (L.wh i) (L.on i) && gplace L (L.wh i) (L.loc i) && !(L.wh (lastW L i) == 2)
/-- Whether a land is good. -/
def goodL (L : Ld) : Bool := (List.range 6).all (goodR L) && (List.range 6).all (goodB L) && (List.range 9).all (goodT L)

theorem goodR_calls {L : Ld} (hw : Wf L) (k : Nat) (hk : k < 6) (w : World) : Calls Tryz.prog 61 #[.agg (L.rcells k)] w fun r w' => r = .returned (.bool (goodR L k)) ∧ Below w.heap.size w w' :=
  room_good_any (L.rname k) (L.dark k) (L.exit k) (L.shut k) w (fun d hd => hw.exit k d hk hd)
theorem goodB_calls {L : Ld} (hw : Wf L) (k : Nat) (hk : k < 6) (w : World) : Calls Tryz.prog 62 #[.agg (L.bcells k)] w fun r w' => r = .returned (.bool (goodB L k)) ∧ Below w.heap.size w w' :=
  being_any (L.bname k) (L.here k) (L.keen k) (L.room k) (L.health k) (L.foe k) w (hw.foe k hk).1 (hw.foe k hk).2

set_option maxRecDepth 100000 in
set_option maxHeartbeats 1000000 in
theorem good_any (L : Ld) (w : World) (hwf : Wf L) : Calls Tryz.prog 27 #[.agg L.cells] w fun e w' => e = .returned (.bool (goodL L)) ∧ Below w.heap.size w w' := by
  have HF := hide hwf
  clear hwf
  go_enter Tryz.func27, Tryz.ntmps27
  go_wp2_with (refine wl_rooms (.tmp 9) rfl rfl _ L rfl (cod_new w L) ?_)
  go_loopw [4, 11] (fun p c wr => ∃ k : Nat, k ≤ 6 ∧ c = .int .i64 k ∧ GdRel L w wr ∧ ∀ r, r < k → goodR L r = true) (fun _ c _ => 6 - (intOf c).toNat)
  case atStart => exact ⟨0, by omega, rfl, gd_start L w, fun r h => by omega⟩
  case round =>
    obtain ⟨k, hle, rfl, R, hall⟩ := hrel
    by_cases hk : k < 6
    · have HR := hide R
      have HA := hide hall
      clear R hall
      go_wp2_with (first | (refine wl_iroom (.tmp 10) (.tmp 11) rfl rfl k L rfl rfl hk ?_) | (refine wl_newR (.tmp 4) (.tmp 13) rfl rfl _ k L rfl rfl rfl rfl ?_) | (refine wl_allR (.tmp 4) rfl rfl wr.heap.size k L rfl (heap_alloc_new wr _) ?_))
      refine (goodR_calls HF.out k hk _).mono ?_
      rintro r w1 ⟨rfl, hb⟩
      have R1 := hide ((HR.out.box (.cells (L.rcells k) 34)).call hb)
      clear hb
      cases hg : goodR L k with
      | false =>
        have HG := hide (show goodL L = false by unfold goodL; rw [all_bad hk hg]; rfl)
        clear hg
        go_wp2
        go_ret
        exact ⟨ret_bool HG.out.symm, R1.out.low⟩
      | true =>
        have HN := hide (show ∀ r, r < k + 1 → goodR L r = true from fun r hr => by
          rcases Nat.lt_or_ge r k with h | h
          · exact HA.out r h
          · rw [show r = k by omega]; exact hg)
        clear hg
        go_wp2
        go_roundw
        case rel => exact ⟨k + 1, by omega, by go_num, R1.out, HN.out⟩
        case measure => simp [intOf]; omega
    · have HA := hide (show (List.range 6).all (goodR L) = true from all_ok fun r hr => hall r (by omega))
      have HR := hide R
      clear R hall
      go_wp2_with (refine wl_beings (.tmp 18) rfl rfl _ L rfl HR.out.cod ?_)
      go_loopw [20] (fun c wr => ∃ k : Nat, k ≤ 6 ∧ c = .int .i64 k ∧ GdRel L w wr ∧ ∀ r, r < k → goodB L r = true) (fun c _ => 6 - (intOf c).toNat)
      case atStart => exact ⟨0, by omega, rfl, HR.out, fun r h => by omega⟩
      case round =>
        obtain ⟨j, hlj, rfl, R, hall⟩ := hrel
        clear HR
        by_cases hj : j < 6
        · have HR := hide R
          have HB := hide hall
          clear R hall
          go_wp2_with (first | (refine wl_ibeing (.tmp 19) (.tmp 20) rfl rfl j L rfl rfl hj ?_) | (refine wl_newB (.tmp 6) (.tmp 22) rfl rfl _ j L rfl rfl rfl rfl ?_) | (refine wl_allB (.tmp 6) rfl rfl wr.heap.size j L rfl (heap_alloc_new wr _) ?_))
          refine (goodB_calls HF.out j hj _).mono ?_
          rintro r w1 ⟨rfl, hb⟩
          have R1 := hide ((HR.out.box (.cells (L.bcells j) 40)).call hb)
          clear hb
          cases hg : goodB L j with
          | false =>
            have HG := hide (show goodL L = false by unfold goodL; rw [all_bad hj hg, Bool.and_false]; rfl)
            clear hg
            go_wp2
            go_ret
            exact ⟨ret_bool HG.out.symm, R1.out.low⟩
          | true =>
            have HN := hide (show ∀ r, r < j + 1 → goodB L r = true from fun r hr => by
              rcases Nat.lt_or_ge r j with h | h
              · exact HB.out r h
              · rw [show r = j by omega]; exact hg)
            clear hg
            go_wp2
            go_roundw
            case rel => exact ⟨j + 1, by omega, by go_num, R1.out, HN.out⟩
            case measure => simp [intOf]; omega
        · have HB := hide (show (List.range 6).all (goodB L) = true from all_ok fun r hr => hall r (by omega))
          have HR := hide R
          clear R hall
          go_wp2_with (refine wl_things (.tmp 27) rfl rfl _ L rfl HR.out.cod ?_)
          go_loopw [29] (fun c wr => ∃ k : Nat, k ≤ 9 ∧ c = .int .i64 k ∧ GdRel L w wr ∧ ∀ r, r < k → goodT L r = true) (fun c _ => 9 - (intOf c).toNat)
          case atStart => exact ⟨0, by omega, rfl, HR.out, fun r h => by omega⟩
          case round =>
            obtain ⟨i, hli, rfl, R, hall⟩ := hrel
            clear HR
            by_cases hi : i < 9
            · have HR := hide R
              have HT := hide hall
              clear R hall
              go_wp2_with (first | (refine wl_ithing (.tmp 28) (.tmp 29) rfl rfl i L rfl rfl hi ?_) | (refine wl_newT (.tmp 8) (.tmp 32) rfl rfl _ i L rfl rfl rfl rfl ?_) | (refine wl_allT (.tmp 8) rfl rfl wr.heap.size i L rfl (heap_alloc_new wr _) ?_))
              refine (kind_any (L.tname i) (L.kind i) (L.wh i) (L.loc i) (L.on i) _).mono ?_
              rintro r w1 ⟨rfl, hb⟩
              have R1 := hide ((HR.out.box (.cells (L.tcells i) 37)).call hb)
              have T1 := hide (show w1.heap[wr.heap.size]? = some (.cells (L.tcells i) 37 (0, 0)) by rw [hb.block _ (by simp)]; exact heap_alloc_new wr _)
              clear hb
              cases hg : gkind (L.kind i) (L.wh i) (L.on i) with
              | false =>
                have HG := hide (show goodL L = false by unfold goodL; rw [all_bad (f := goodT L) hi (by unfold goodT; rw [hg]; rfl), Bool.and_false])
                clear hg
                go_wp2
                go_ret
                exact ⟨ret_bool HG.out.symm, R1.out.low⟩
              | true =>
                have HK := hide hg
                clear hg
                go_wp2_with (first | (refine wl_land (.tmp 1) rfl rfl _ L rfl R1.out.cod ?_) | (refine wl_allT (.tmp 8) rfl rfl wr.heap.size i L rfl T1.out ?_))
                refine (place_any L (L.tname i) (L.kind i) (L.wh i) (L.loc i) (L.on i) _).mono ?_
                rintro r w2 ⟨rfl, hb⟩
                have R2 := hide (R1.out.call hb)
                clear hb
                cases hg : gplace L (L.wh i) (L.loc i) with
                | false =>
                  have HG := hide (show goodL L = false by unfold goodL; rw [all_bad (f := goodT L) hi (by unfold goodT; rw [HK.out, hg]; rfl), Bool.and_false])
                  clear hg
                  go_wp2
                  go_ret
                  exact ⟨ret_bool HG.out.symm, R2.out.low⟩
                | true =>
                  have HP := hide hg
                  clear hg
                  go_wp2_with (refine wl_land (.tmp 1) rfl rfl _ L rfl R2.out.cod ?_)
                  refine (endless_any L (i : Int) _ (amg_mk (by omega) (by omega))).mono ?_
                  rintro r w3 ⟨rfl, hb⟩
                  have R3 := hide (R2.out.call hb)
                  clear hb
                  cases hg : (L.wh (lastW L (i : Int)) == 2) with
                  | true =>
                    have HG := hide (show goodL L = false by unfold goodL; rw [all_bad (f := goodT L) hi (by unfold goodT; rw [HK.out, HP.out, hg]; rfl), Bool.and_false])
                    clear hg
                    go_wp2
                    go_ret
                    exact ⟨ret_bool HG.out.symm, R3.out.low⟩
                  | false =>
                    have HN := hide (show ∀ r, r < i + 1 → goodT L r = true from fun r hr => by
                      rcases Nat.lt_or_ge r i with h | h
                      · exact HT.out r h
                      · rw [show r = i by omega]; unfold goodT; rw [HK.out, HP.out, hg]; rfl)
                    clear hg
                    go_wp2
                    go_roundw
                    case rel => exact ⟨i + 1, by omega, by go_num, R3.out, HN.out⟩
                    case measure => simp [intOf]; omega
            · have HG := hide (show goodL L = true by unfold goodL; rw [HA.out, HB.out, all_ok fun r hr => hall r (by omega)]; rfl)
              have HR := hide R
              clear R hall
              go_wp2
              go_ret
              exact ⟨ret_bool HG.out.symm, HR.out.low⟩
end Go.Proofs.YtncgcejlkmoliaaGreatDoor
