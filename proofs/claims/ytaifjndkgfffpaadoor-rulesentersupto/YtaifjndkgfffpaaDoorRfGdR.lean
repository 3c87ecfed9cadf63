/-
  The document's own answer to whether a land is good, where a room is not good: the contract. Written by a program.
-/
import Derived.Test.YtaifjndkgfffpaaDoorRfGdD
namespace Go.Proofs.YtaifjndkgfffpaaDoor
open Go.RowKit
set_option linter.unusedVariables false

set_option maxRecDepth 100000 in
set_option maxHeartbeats 16000000 in
theorem goodland_R (L : Ld) (w : World) (hbad : ∃ r, r < 6 ∧ ∃ d, d < 6 ∧ okR L r d = false) : Calls Tryd.prog 25 #[.agg L.cells] w fun e w' => e = .returned (.bool (refG L)) ∧ Below w.heap.size w w' := by
  have HBADR := hide hbad
  clear hbad
  have R0 := hide (show RgRel L w (w.alloc (.cells L.cells 34)) from ⟨cod_new w L, below_box w _⟩)
  go_enter Tryd.func25, Tryd.ntmps25
  go_wp2_with (refine wl_rooms (.tmp 14) rfl rfl _ L rfl R0.out.cod ?_)
  go_loopw [16] (fun c wr => ∃ r : Nat, r ≤ 6 ∧ c = .int .i64 r ∧ RgRel L w wr ∧ ∀ r', r' < r → ∀ d, d < 6 → okR L r' d = true) (fun c _ => 6 - (intOf c).toNat)
  case atStart => exact ⟨0, by omega, rfl, R0.out, fun _ h => by omega⟩
  case round =>
    obtain ⟨r, hle, rfl, Rh, Ah⟩ := hrel
    have R := hide Rh
    have HA := hide Ah
    clear Rh Ah R0
    by_cases hr : r < 6
    · have hri : (r : Int) < 6 := by omega
      have RA := hide (R.out.box (.cells (L.rcells r) 25))
      have G := heap_alloc_new wr (.cells (L.rcells r) 25)
      have x2 : ∀ d, d < 6 → (wr.alloc (.cells (L.rcells r) 25)).cell? ⟨wr.heap.size, 2 + d, none⟩ = some (.int .i64 (L.exit r d)) := fun d hd => by
        rw [cell_of_row _ _ _ _ _ _ G, L.rcells_get r (2 + d) (by omega), Nat.add_comm]; simp [Ld.roomCell, hd]
      have x8 : ∀ d, d < 6 → (wr.alloc (.cells (L.rcells r) 25)).cell? ⟨wr.heap.size, 8 + d, none⟩ = some (.bool (L.shut r d)) := fun d hd => by
        rw [cell_of_row _ _ _ _ _ _ G, L.rcells_get r (8 + d) (by omega), show 8 + d = (d + 6) + 2 by omega]; simp [Ld.roomCell]
      have X2 := hide x2
      have X8 := hide x8
      clear x2 x8 G
      go_upto_region 4 with (first | (refine wl_iroom (.tmp 15) (.tmp 16) rfl rfl r L rfl rfl hr ?_) | (refine wl_newR (.tmp 4) (.tmp 18) rfl rfl _ r L rfl rfl rfl rfl ?_))
      generalize hwk : wr.alloc (.cells (L.rcells r) 25) = wk at *
      generalize hky : wr.heap.size = ky at *
      clear hwk hky R
      simp only [Act.put]
      go_wp2_with fail
      go_loop [19] (fun c => ∃ d : Nat, d ≤ 6 ∧ c = .int .i64 d ∧ ∀ d', d' < d → okR L r d' = true) (fun c => 6 - (intOf c).toNat)
      case atStart => exact ⟨0, by omega, rfl, fun _ h => by omega⟩
      case round =>
        obtain ⟨d, hld, rfl, Dh⟩ := hrel
        have HD := hide Dh
        clear Dh
        by_cases hd : d < 6
        · have hdi : (d : Int) < 6 := by omega
          have c2 := X2.out d hd
          have c8 := X8.out d hd
          have key : decide (L.exit r d < 0) = true ∨ (decide (L.exit r d < 0) = false ∧ decide (6 < L.exit r d) = true) ∨ (decide (L.exit r d < 0) = false ∧ decide (6 < L.exit r d) = false ∧ L.shut r d = false) ∨ (decide (L.exit r d < 0) = false ∧ decide (6 < L.exit r d) = false ∧ L.shut r d = true ∧ (L.exit r d == 0) = true) ∨ (decide (L.exit r d < 0) = false ∧ decide (6 < L.exit r d) = false ∧ L.shut r d = true ∧ (L.exit r d == 0) = false) := by
            cases decide (L.exit r d < 0) <;> cases decide (6 < L.exit r d) <;> cases L.shut r d <;> cases L.exit r d == 0 <;> simp
          rcases key with h1 | ⟨h1, h2⟩ | ⟨h1, h2, h3⟩ | ⟨h1, h2, h3, h4⟩ | ⟨h1, h2, h3, h4⟩
          · have HF := hide (refG_R hr hd (show okR L r d = false by unfold okR; rw [h1]; simp))
            go_wp2
            go_ret
            exact ⟨ret_bool HF.out.symm, RA.out.low⟩
          · have HF := hide (refG_R hr hd (show okR L r d = false by unfold okR; rw [h1, h2]; simp))
            go_wp2
            go_ret
            exact ⟨ret_bool HF.out.symm, RA.out.low⟩
          · have HO := hide (show ∀ d', d' < d + 1 → okR L r d' = true from fun d' hd' => by
              by_cases e : d' = d
              · subst e; unfold okR; rw [h1, h2, h3]; simp
              · exact HD.out d' (by omega))
            rw [h3] at c8
            go_wp2
            exact ⟨⟨d + 1, by omega, by go_num, HO.out⟩, by simp [intOf]; omega⟩
          · have HF := hide (refG_R hr hd (show okR L r d = false by unfold okR; rw [h1, h2, h3]; simpa using h4))
            rw [h3] at c8
            go_wp2
            go_ret
            exact ⟨ret_bool HF.out.symm, RA.out.low⟩
          · have HO := hide (show ∀ d', d' < d + 1 → okR L r d' = true from fun d' hd' => by
              by_cases e : d' = d
              · subst e; unfold okR; rw [h1, h2, h3]; simpa using h4
              · exact HD.out d' (by omega))
            rw [h3] at c8
            go_wp2
            exact ⟨⟨d + 1, by omega, by go_num, HO.out⟩, by simp [intOf]; omega⟩
        · have hd6 : d = 6 := by omega
          subst hd6
          have HO := hide (show ∀ r', r' < r + 1 → ∀ d, d < 6 → okR L r' d = true from fun r' hr' d hd' => by
            by_cases e : r' = r
            · subst e; exact HD.out d hd'
            · exact HA.out r' (by omega) d hd')
          go_wp2
          go_roundw
          case rel => exact ⟨r + 1, by omega, by go_num, RA.out, HO.out⟩
          case measure => simp [intOf]; omega
    · exfalso
      have hr6 : r = 6 := by omega
      subst hr6
      obtain ⟨r, hr, d, hd, hx⟩ := HBADR.out
      rw [HA.out r hr d hd] at hx
      cases hx
end Go.Proofs.YtaifjndkgfffpaaDoor
