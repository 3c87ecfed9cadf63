/-
  The document's own answer to whether a land is good, where a thing is nowhere: the contract. Written by a program.
-/
import Derived.Test.YtaifjndkgfffpaaGreatDoorMgX
namespace Go.Proofs.YtaifjndkgfffpaaGreatDoor
open Go.RowKit
set_option linter.unusedVariables false

set_option maxRecDepth 100000 in
set_option maxHeartbeats 16000000 in
theorem goodland_U (L : Ld) (w : World) (hpr : ∀ r, r < 6 → ∀ d, d < 6 → okR L r d = true) (hpb : ∀ b, b < 6 → okB L b = true) (i0 : Nat) (hi0 : i0 < 9) (hlt : ∀ i, i < i0 → okK L i = true ∧ okU L i = true) (hbk : okK L i0 = true) (hbad : okU L i0 = false) : Calls Tryz.prog 10 #[.agg L.cells] w fun e w' => e = .returned (.bool (refG L)) ∧ Below w.heap.size w w' := by
  have HPR := hide hpr
  clear hpr
  have HPB := hide hpb
  clear hpb
  have HI0 := hide hi0
  have HLT := hide hlt
  clear hi0 hlt
  have HBAD := hide hbad
  have HBK := hide hbk
  clear hbad hbk
  have R0 := hide (show RgRel L w (w.alloc (.cells L.cells 34)) from ⟨cod_new w L, below_box w _⟩)
  go_enter Tryz.func10, Tryz.ntmps10
  go_wp2_with (refine wl_rooms (.tmp 14) rfl rfl _ L rfl R0.out.cod ?_)
  go_loopw [16] (fun c wr => ∃ r : Nat, r ≤ 6 ∧ c = .int .i64 r ∧ RgRel L w wr ∧ ∀ r', r' < r → ∀ d, d < 6 → okR L r' d = true) (fun c _ => 6 - (intOf c).toNat)
  case atStart => exact ⟨0, by omega, rfl, R0.out, fun _ h => by omega⟩
  case round =>
    obtain ⟨r, hle, rfl, Rh, Ah⟩ := hrel
    have R := hide Rh
    have HA := hide Ah
    clear Rh Ah R0
    by_cases hr : r < 6
    · have hri : (r : Int) < 6 := by omega
      have RA := hide (R.out.box (.cells (L.rcells r) 25))
      have G := heap_alloc_new wr (.cells (L.rcells r) 25)
      have x2 : ∀ d, d < 6 → (wr.alloc (.cells (L.rcells r) 25)).cell? ⟨wr.heap.size, 2 + d, none⟩ = some (.int .i64 (L.exit r d)) := fun d hd => by
        rw [cell_of_row _ _ _ _ _ _ G, L.rcells_get r (2 + d) (by omega), Nat.add_comm]; simp [Ld.roomCell, hd]
      have x8 : ∀ d, d < 6 → (wr.alloc (.cells (L.rcells r) 25)).cell? ⟨wr.heap.size, 8 + d, none⟩ = some (.bool (L.shut r d)) := fun d hd => by
        rw [cell_of_row _ _ _ _ _ _ G, L.rcells_get r (8 + d) (by omega), show 8 + d = (d + 6) + 2 by omega]; simp [Ld.roomCell]
      have X2 := hide x2
      have X8 := hide x8
      clear x2 x8 G
      go_upto_region 4 with (first | (refine wl_iroom (.tmp 15) (.tmp 16) rfl rfl r L rfl rfl hr ?_) | (refine wl_newR (.tmp 4) (.tmp 18) rfl rfl _ r L rfl rfl rfl rfl ?_))
      generalize hwk : wr.alloc (.cells (L.rcells r) 25) = wk at *
      generalize hky : wr.heap.size = ky at *
      clear hwk hky R
      simp only [Act.put]
      go_wp2_with fail
      go_loop [19] (fun c => ∃ d : Nat, d ≤ 6 ∧ c = .int .i64 d ∧ ∀ d', d' < d → okR L r d' = true) (fun c => 6 - (intOf c).toNat)
      case atStart => exact ⟨0, by omega, rfl, fun _ h => by omega⟩
      case round =>
        obtain ⟨d, hld, rfl, Dh⟩ := hrel
        have HD := hide Dh
        clear Dh
        by_cases hd : d < 6
        · have hdi : (d : Int) < 6 := by omega
          have c2 := X2.out d hd
          have c8 := X8.out d hd
          have key : decide (L.exit r d < 0) = true ∨ (decide (L.exit r d < 0) = false ∧ decide (6 < L.exit r d) = true) ∨ (decide (L.exit r d < 0) = false ∧ decide (6 < L.exit r d) = false ∧ L.shut r d = false) ∨ (decide (L.exit r d < 0) = false ∧ decide (6 < L.exit r d) = false ∧ L.shut r d = true ∧ (L.exit r d == 0) = true) ∨ (decide (L.exit r d < 0) = false ∧ decide (6 < L.exit r d) = false ∧ L.shut r d = true ∧ (L.exit r d == 0) = false) := by
            cases decide (L.exit r d < 0) <;> cases decide (6 < L.exit r d) <;> cases L.shut r d <;> cases L.exit r d == 0 <;> simp
          rcases key with h1 | ⟨h1, h2⟩ | ⟨h1, h2, h3⟩ | ⟨h1, h2, h3, h4⟩ | ⟨h1, h2, h3, h4⟩
          · have HX : okR L r d = false := by unfold okR; rw [h1]; simp
            rw [HPR.out r hr d hd] at HX
            cases HX
          · have HX : okR L r d = false := by unfold okR; rw [h1, h2]; simp
            rw [HPR.out r hr d hd] at HX
            cases HX
          · have HO := hide (show ∀ d', d' < d + 1 → okR L r d' = true from fun d' hd' => by
              by_cases e : d' = d
              · subst e; unfold okR; rw [h1, h2, h3]; simp
              · exact HD.out d' (by omega))
            rw [h3] at c8
            go_wp2
            exact ⟨⟨d + 1, by omega, by go_num, HO.out⟩, by simp [intOf]; omega⟩
          · have HX : okR L r d = false := by unfold okR; rw [h1, h2, h3]; simpa using h4
            rw [HPR.out r hr d hd] at HX
            cases HX
          · have HO := hide (show ∀ d', d' < d + 1 → okR L r d' = true from fun d' hd' => by
              by_cases e : d' = d
              · subst e; unfold okR; rw [h1, h2, h3]; simpa using h4
              · exact HD.out d' (by omega))
            rw [h3] at c8
            go_wp2
            exact ⟨⟨d + 1, by omega, by go_num, HO.out⟩, by simp [intOf]; omega⟩
        · have hd6 : d = 6 := by omega
          subst hd6
          have HO := hide (show ∀ r', r' < r + 1 → ∀ d, d < 6 → okR L r' d = true from fun r' hr' d hd' => by
            by_cases e : r' = r
            · subst e; exact HD.out d hd'
            · exact HA.out r' (by omega) d hd')
          go_wp2
          go_roundw
          case rel => exact ⟨r + 1, by omega, by go_num, RA.out, HO.out⟩
          case measure => simp [intOf]; omega
    · have hr6 : r = 6 := by omega
      subst hr6
      have HA1 := hide (show ∀ r, r < 6 → ∀ d, d < 6 → okR L r d = true from HA.out)
      clear HA
      go_wp2_with (refine wl_beings (.tmp 49) rfl rfl _ L rfl R.out.cod ?_)
      go_loopw [51] (fun c wr => ∃ b : Nat, b ≤ 6 ∧ c = .int .i64 b ∧ RgRel L w wr ∧ ∀ b', b' < b → okB L b' = true) (fun c _ => 6 - (intOf c).toNat)
      case atStart => exact ⟨0, by omega, rfl, R.out, fun _ h => by omega⟩
      case round =>
        obtain ⟨b, hlb, rfl, Rh, Ah⟩ := hrel
        have R2 := hide Rh
        have HA := hide Ah
        clear Rh Ah R
        by_cases hb : b < 6
        · have hbi : (b : Int) < 6 := by omega
          have RA := hide (R2.out.box (.cells (L.bcells b) 31))
          have G := heap_alloc_new wr (.cells (L.bcells b) 31)
          have x1 : (wr.alloc (.cells (L.bcells b) 31)).cell? ⟨wr.heap.size, 1, none⟩ = some (.bool (L.here b)) := by rw [cell_of_row _ _ _ _ _ _ G]; rfl
          have x3 : (wr.alloc (.cells (L.bcells b) 31)).cell? ⟨wr.heap.size, 3, none⟩ = some (.int .i64 (L.room b)) := by rw [cell_of_row _ _ _ _ _ _ G]; rfl
          have x4 : (wr.alloc (.cells (L.bcells b) 31)).cell? ⟨wr.heap.size, 4, none⟩ = some (.int .i64 (L.health b)) := by rw [cell_of_row _ _ _ _ _ _ G]; rfl
          have x5 : (wr.alloc (.cells (L.bcells b) 31)).cell? ⟨wr.heap.size, 5, none⟩ = some (.int .i64 (L.foe b)) := by rw [cell_of_row _ _ _ _ _ _ G]; rfl
          clear G
          go_upto_region 14 with (first | (refine wl_ibeing (.tmp 50) (.tmp 51) rfl rfl b L rfl rfl hb ?_) | (refine wl_newB (.tmp 7) (.tmp 53) rfl rfl _ b L rfl rfl rfl rfl ?_))
          generalize hwk : wr.alloc (.cells (L.bcells b) 31) = wk at *
          generalize hky : wr.heap.size = ky at *
          clear hwk hky R2
          simp only [Act.put]
          have key : decide (L.room b < 0) = true ∨ (decide (L.room b < 0) = false ∧ (decide (5 < L.room b) = true ∨ (decide (5 < L.room b) = false ∧ (decide (L.health b < 0) = true ∨ (decide (L.health b < 0) = false ∧ (decide (10 < L.health b) = true ∨ (decide (10 < L.health b) = false ∧ (decide (L.foe b < 0) = true ∨ (decide (L.foe b < 0) = false ∧ (decide (6 < L.foe b) = true ∨ (decide (6 < L.foe b) = false ∧ ((!(L.here b == (L.health b != 0))) = true ∨ ((!(L.here b == (L.health b != 0))) = false ∧ (L.here b = true ∨ (L.here b = false ∧ ((L.foe b != 0) = true ∨ (L.foe b != 0) = false)))))))))))))))) := by
            cases decide (L.room b < 0) <;> cases decide (5 < L.room b) <;> cases decide (L.health b < 0) <;> cases decide (10 < L.health b) <;> cases decide (L.foe b < 0) <;> cases decide (6 < L.foe b) <;> cases (!(L.here b == (L.health b != 0))) <;> cases L.here b <;> cases L.foe b != 0 <;> simp
          rcases key with h1 | ⟨h1, h2 | ⟨h2, h3 | ⟨h3, h4 | ⟨h4, h5 | ⟨h5, h6 | ⟨h6, h7 | ⟨h7, h8 | ⟨h8, h9 | h9⟩⟩⟩⟩⟩⟩⟩⟩
          · have HX : okB L b = false := by unfold okB; rw [show (L.here b != (L.health b != 0)) = (!(L.here b == (L.health b != 0))) from rfl, h1]; simp
            rw [HPB.out b hb] at HX
            cases HX
          · have HX : okB L b = false := by unfold okB; rw [show (L.here b != (L.health b != 0)) = (!(L.here b == (L.health b != 0))) from rfl, h1, h2]; simp
            rw [HPB.out b hb] at HX
            cases HX
          · have HX : okB L b = false := by unfold okB; rw [show (L.here b != (L.health b != 0)) = (!(L.here b == (L.health b != 0))) from rfl, h1, h2, h3]; simp
            rw [HPB.out b hb] at HX
            cases HX
          · have HX : okB L b = false := by unfold okB; rw [show (L.here b != (L.health b != 0)) = (!(L.here b == (L.health b != 0))) from rfl, h1, h2, h3, h4]; simp
            rw [HPB.out b hb] at HX
            cases HX
          · have HX : okB L b = false := by unfold okB; rw [show (L.here b != (L.health b != 0)) = (!(L.here b == (L.health b != 0))) from rfl, h1, h2, h3, h4, h5]; simp
            rw [HPB.out b hb] at HX
            cases HX
          · have HX : okB L b = false := by unfold okB; rw [show (L.here b != (L.health b != 0)) = (!(L.here b == (L.health b != 0))) from rfl, h1, h2, h3, h4, h5, h6]; simp
            rw [HPB.out b hb] at HX
            cases HX
          · have HX : okB L b = false := by unfold okB; rw [show (L.here b != (L.health b != 0)) = (!(L.here b == (L.health b != 0))) from rfl, h1, h2, h3, h4, h5, h6, h7]; simp
            rw [HPB.out b hb] at HX
            cases HX
          · have HO := hide (show ∀ b', b' < b + 1 → okB L b' = true from fun b' hb' => by
              by_cases e : b' = b
              · subst e; unfold okB; rw [show (L.here b' != (L.health b' != 0)) = (!(L.here b' == (L.health b' != 0))) from rfl, h1, h2, h3, h4, h5, h6, h7, h8]; simp
              · exact HA.out b' (by omega))
            rw [h8] at x1
            have h7b : (L.health b != 0) = true := by rw [h8] at h7; simpa using h7
            clear h7
            go_wp2
            go_roundw
            case rel => exact ⟨b + 1, by omega, by go_num, RA.out, HO.out⟩
            case measure => simp [intOf]; omega
          · have HX : okB L b = false := by unfold okB; rw [show (L.here b != (L.health b != 0)) = (!(L.here b == (L.health b != 0))) from rfl, h1, h2, h3, h4, h5, h6, h7, h8, h9]; simp
            rw [HPB.out b hb] at HX
            cases HX
          · have HO := hide (show ∀ b', b' < b + 1 → okB L b' = true from fun b' hb' => by
              by_cases e : b' = b
              · subst e; unfold okB; rw [show (L.here b' != (L.health b' != 0)) = (!(L.here b' == (L.health b' != 0))) from rfl, h1, h2, h3, h4, h5, h6, h7, h8, h9]; simp
              · exact HA.out b' (by omega))
            rw [h8] at x1
            have h7b : (L.health b != 0) = false := by rw [h8] at h7; simpa using h7
            clear h7
            go_wp2
            go_roundw
            case rel => exact ⟨b + 1, by omega, by go_num, RA.out, HO.out⟩
            case measure => simp [intOf]; omega
        · have hb6 : b = 6 := by omega
          subst hb6
          have HA2 := hide (show ∀ b, b < 6 → okB L b = true from HA.out)
          clear HA
          go_wp2_with (refine wl_things (.tmp 101) rfl rfl _ L rfl R2.out.cod ?_)
          go_loopw [103] (fun c wr => ∃ i : Nat, i ≤ 9 ∧ c = .int .i64 i ∧ RgRel L w wr ∧ ∀ i', i' < i → okK L i' = true ∧ okU L i' = true) (fun c _ => 9 - (intOf c).toNat)
          case atStart => exact ⟨0, by omega, rfl, R2.out, fun _ h => by omega⟩
          case round =>
            obtain ⟨i, hli, rfl, Rh, Ah⟩ := hrel
            have R3 := hide Rh
            have HA := hide Ah
            clear Rh Ah R2
            by_cases hi : i < 9
            · have hii : (i : Int) < 9 := by omega
              have RA := hide (R3.out.box (.cells (L.tcells i) 28))
              have G := heap_alloc_new wr (.cells (L.tcells i) 28)
              have x1 : (wr.alloc (.cells (L.tcells i) 28)).cell? ⟨wr.heap.size, 1, none⟩ = some (.int .i64 (L.kind i)) := by rw [cell_of_row _ _ _ _ _ _ G]; rfl
              have x2 : (wr.alloc (.cells (L.tcells i) 28)).cell? ⟨wr.heap.size, 2, none⟩ = some (.int .i64 (L.wh i)) := by rw [cell_of_row _ _ _ _ _ _ G]; rfl
              have x3 : (wr.alloc (.cells (L.tcells i) 28)).cell? ⟨wr.heap.size, 3, none⟩ = some (.int .i64 (L.loc i)) := by rw [cell_of_row _ _ _ _ _ _ G]; rfl
              have x4 : (wr.alloc (.cells (L.tcells i) 28)).cell? ⟨wr.heap.size, 4, none⟩ = some (.bool (L.on i)) := by rw [cell_of_row _ _ _ _ _ _ G]; rfl
              clear G
              go_upto_region 20 with (first | (refine wl_ithing (.tmp 102) (.tmp 103) rfl rfl i L rfl rfl hi ?_) | (refine wl_newT (.tmp 9) (.tmp 106) rfl rfl _ i L rfl rfl rfl rfl ?_))
              generalize hwk : wr.alloc (.cells (L.tcells i) 28) = wk at *
              generalize hky : wr.heap.size = ky at *
              clear hwk hky R3
              simp only [Act.put]
              have hle0 : i ≤ i0 := by
                by_cases h : i ≤ i0
                · exact h
                · exfalso
                  have := HA.out i0 (by omega)
                  rw [HBAD.out] at this
                  simp at this
              have HKI : Hid (okK L i = true) := by
                by_cases hie : i = i0
                · rw [hie]; exact HBK.out
                · exact (HLT.out i (by omega)).1
              go_cut [161] from 104 to 204 (fun c wc => c = .bool false ∧ wc = wk)
              case first =>
                have key : (decide (L.kind i < 0) = true) ∨ (decide (L.kind i < 0) = false ∧ decide (3 < L.kind i) = true) ∨ (decide (L.kind i < 0) = false ∧ decide (3 < L.kind i) = false ∧ (L.kind i == 0) = true ∧ L.on i = true) ∨ (decide (L.kind i < 0) = false ∧ decide (3 < L.kind i) = false ∧ (L.kind i == 0) = true ∧ L.on i = false ∧ (L.kind i == 2) = false ∧ (L.wh i == 2) = false) ∨ (decide (L.kind i < 0) = false ∧ decide (3 < L.kind i) = false ∧ (L.kind i == 0) = true ∧ L.on i = false ∧ (L.kind i == 2) = false ∧ (L.wh i == 2) = true ∧ decide (L.loc i < 0) = true) ∨ (decide (L.kind i < 0) = false ∧ decide (3 < L.kind i) = false ∧ (L.kind i == 0) = true ∧ L.on i = false ∧ (L.kind i == 2) = false ∧ (L.wh i == 2) = true ∧ decide (L.loc i < 0) = false ∧ decide (8 < L.loc i) = true) ∨ (decide (L.kind i < 0) = false ∧ decide (3 < L.kind i) = false ∧ (L.kind i == 0) = true ∧ L.on i = false ∧ (L.kind i == 2) = false ∧ (L.wh i == 2) = true ∧ decide (L.loc i < 0) = false ∧ decide (8 < L.loc i) = false ∧ (L.kind (L.loc i).toNat != 3) = true) ∨ (decide (L.kind i < 0) = false ∧ decide (3 < L.kind i) = false ∧ (L.kind i == 0) = true ∧ L.on i = false ∧ (L.kind i == 2) = false ∧ (L.wh i == 2) = true ∧ decide (L.loc i < 0) = false ∧ decide (8 < L.loc i) = false ∧ (L.kind (L.loc i).toNat != 3) = false) ∨ (decide (L.kind i < 0) = false ∧ decide (3 < L.kind i) = false ∧ (L.kind i == 0) = false ∧ (L.kind i == 2) = true ∧ L.on i = false ∧ (L.wh i == 2) = false) ∨ (decide (L.kind i < 0) = false ∧ decide (3 < L.kind i) = false ∧ (L.kind i == 0) = false ∧ (L.kind i == 2) = true ∧ L.on i = false ∧ (L.wh i == 2) = true ∧ decide (L.loc i < 0) = true) ∨ (decide (L.kind i < 0) = false ∧ decide (3 < L.kind i) = false ∧ (L.kind i == 0) = false ∧ (L.kind i == 2) = true ∧ L.on i = false ∧ (L.wh i == 2) = true ∧ decide (L.loc i < 0) = false ∧ decide (8 < L.loc i) = true) ∨ (decide (L.kind i < 0) = false ∧ decide (3 < L.kind i) = false ∧ (L.kind i == 0) = false ∧ (L.kind i == 2) = true ∧ L.on i = false ∧ (L.wh i == 2) = true ∧ decide (L.loc i < 0) = false ∧ decide (8 < L.loc i) = false ∧ (L.kind (L.loc i).toNat != 3) = true) ∨ (decide (L.kind i < 0) = false ∧ decide (3 < L.kind i) = false ∧ (L.kind i == 0) = false ∧ (L.kind i == 2) = true ∧ L.on i = false ∧ (L.wh i == 2) = true ∧ decide (L.loc i < 0) = false ∧ decide (8 < L.loc i) = false ∧ (L.kind (L.loc i).toNat != 3) = false) ∨ (decide (L.kind i < 0) = false ∧ decide (3 < L.kind i) = false ∧ (L.kind i == 0) = false ∧ (L.kind i == 2) = false ∧ (L.wh i == 2) = false) ∨ (decide (L.kind i < 0) = false ∧ decide (3 < L.kind i) = false ∧ (L.kind i == 0) = false ∧ (L.kind i == 2) = false ∧ (L.wh i == 2) = true ∧ decide (L.loc i < 0) = true) ∨ (decide (L.kind i < 0) = false ∧ decide (3 < L.kind i) = false ∧ (L.kind i == 0) = false ∧ (L.kind i == 2) = false ∧ (L.wh i == 2) = true ∧ decide (L.loc i < 0) = false ∧ decide (8 < L.loc i) = true) ∨ (decide (L.kind i < 0) = false ∧ decide (3 < L.kind i) = false ∧ (L.kind i == 0) = false ∧ (L.kind i == 2) = false ∧ (L.wh i == 2) = true ∧ decide (L.loc i < 0) = false ∧ decide (8 < L.loc i) = false ∧ (L.kind (L.loc i).toNat != 3) = true) ∨ (decide (L.kind i < 0) = false ∧ decide (3 < L.kind i) = false ∧ (L.kind i == 0) = false ∧ (L.kind i == 2) = false ∧ (L.wh i == 2) = true ∧ decide (L.loc i < 0) = false ∧ decide (8 < L.loc i) = false ∧ (L.kind (L.loc i).toNat != 3) = false) ∨ (decide (L.kind i < 0) = false ∧ decide (3 < L.kind i) = false ∧ (L.kind i == 0) = false ∧ (L.kind i == 2) = true ∧ L.on i = true ∧ (L.wh i != 1) = true) ∨ (decide (L.kind i < 0) = false ∧ decide (3 < L.kind i) = false ∧ (L.kind i == 0) = false ∧ (L.kind i == 2) = true ∧ L.on i = true ∧ (L.wh i != 1) = false ∧ (L.wh i == 2) = false) := by
                  have a1 : (L.kind i == 0) = true → (L.kind i == 2) = false := fun h => by simp at h; simp [h]
                  have a2 : (L.wh i != 1) = false → (L.wh i == 2) = false := fun h => by simp at h; simp [h]
                  revert a1 a2
                  cases decide (L.kind i < 0) <;> cases decide (3 < L.kind i) <;> cases L.kind i == 0 <;> cases L.kind i == 2 <;> cases L.on i <;> cases L.wh i != 1 <;> cases L.wh i == 2 <;> cases decide (L.loc i < 0) <;> cases decide (8 < L.loc i) <;> cases L.kind (L.loc i).toNat != 3 <;> simp
                rcases key with f1 | ⟨f1, f2⟩ | ⟨f1, f2, f3, f4⟩ | ⟨f1, f2, f3, f4, f5, f6⟩ | ⟨f1, f2, f3, f4, f5, f6, f7⟩ | ⟨f1, f2, f3, f4, f5, f6, f7, f8⟩ | ⟨f1, f2, f3, f4, f5, f6, f7, f8, f9⟩ | ⟨f1, f2, f3, f4, f5, f6, f7, f8, f9⟩ | ⟨f1, f2, f3, f4, f5, f6⟩ | ⟨f1, f2, f3, f4, f5, f6, f7⟩ | ⟨f1, f2, f3, f4, f5, f6, f7, f8⟩ | ⟨f1, f2, f3, f4, f5, f6, f7, f8, f9⟩ | ⟨f1, f2, f3, f4, f5, f6, f7, f8, f9⟩ | ⟨f1, f2, f3, f4, f5⟩ | ⟨f1, f2, f3, f4, f5, f6⟩ | ⟨f1, f2, f3, f4, f5, f6, f7⟩ | ⟨f1, f2, f3, f4, f5, f6, f7, f8⟩ | ⟨f1, f2, f3, f4, f5, f6, f7, f8⟩ | ⟨f1, f2, f3, f4, f5, f6⟩ | ⟨f1, f2, f3, f4, f5, f6, f7⟩
                · have HV := hide (show okK L i = false by unfold okK; rw [f1]; simp)
                  have HX := HV.out
                  rw [HKI.out] at HX
                  cases HX
                · have HV := hide (show okK L i = false by unfold okK; rw [f1, f2]; simp)
                  have HX := HV.out
                  rw [HKI.out] at HX
                  cases HX
                · have HV := hide (show okK L i = false by unfold okK; rw [f1, f2, f3, f4]; simp)
                  have HX := HV.out
                  rw [HKI.out] at HX
                  cases HX
                · have HV := hide (show okK L i = true by unfold okK; rw [f1, f2, f3, f4, f5, f6]; simp)
                  rw [f4] at x4
                  clear HKI
                  go_wp2
                  go_meet
                  exact ⟨rfl, rfl⟩
                · have HV := hide (show okK L i = false by unfold okK; rw [f1, f2, f3, f4, f5, f6, f7]; simp)
                  have HX := HV.out
                  rw [HKI.out] at HX
                  cases HX
                · have HV := hide (show okK L i = false by unfold okK; rw [f1, f2, f3, f4, f5, f6, f7, f8]; simp)
                  have HX := HV.out
                  rw [HKI.out] at HX
                  cases HX
                · have HV := hide (show okK L i = false by unfold okK; rw [f1, f2, f3, f4, f5, f6, f7, f8, f9]; simp)
                  have HX := HV.out
                  rw [HKI.out] at HX
                  cases HX
                · have HV := hide (show okK L i = true by unfold okK; rw [f1, f2, f3, f4, f5, f6, f7, f8, f9]; simp)
                  rw [f4] at x4
                  obtain ⟨j, ej⟩ := Int.eq_ofNat_of_zero_le (show 0 ≤ L.loc i by simpa using f7)
                  have hj9 : j < 9 := by have h := f8; rw [ej] at h; simp at h; omega
                  have hji : (j : Int) < 9 := by omega
                  have ck := RA.out.cod.thing j 1 hj9 (by omega)
                  simp only [Ld.thingCell] at ck
                  rw [ej] at f7 f8 f9 x3
                  simp only [Int.toNat_natCast] at f9
                  clear ej
                  clear HKI
                  go_wp2
                  go_meet
                  exact ⟨rfl, rfl⟩
                · have HV := hide (show okK L i = true by unfold okK; rw [f1, f2, f3, f4, f5, f6]; simp)
                  rw [f5] at x4
                  clear HKI
                  go_wp2
                  go_meet
                  exact ⟨rfl, rfl⟩
                · have HV := hide (show okK L i = false by unfold okK; rw [f1, f2, f3, f4, f5, f6, f7]; simp)
                  have HX := HV.out
                  rw [HKI.out] at HX
                  cases HX
                · have HV := hide (show okK L i = false by unfold okK; rw [f1, f2, f3, f4, f5, f6, f7, f8]; simp)
                  have HX := HV.out
                  rw [HKI.out] at HX
                  cases HX
                · have HV := hide (show okK L i = false by unfold okK; rw [f1, f2, f3, f4, f5, f6, f7, f8, f9]; simp)
                  have HX := HV.out
                  rw [HKI.out] at HX
                  cases HX
                · have HV := hide (show okK L i = true by unfold okK; rw [f1, f2, f3, f4, f5, f6, f7, f8, f9]; simp)
                  rw [f5] at x4
                  obtain ⟨j, ej⟩ := Int.eq_ofNat_of_zero_le (show 0 ≤ L.loc i by simpa using f7)
                  have hj9 : j < 9 := by have h := f8; rw [ej] at h; simp at h; omega
                  have hji : (j : Int) < 9 := by omega
                  have ck := RA.out.cod.thing j 1 hj9 (by omega)
                  simp only [Ld.thingCell] at ck
                  rw [ej] at f7 f8 f9 x3
                  simp only [Int.toNat_natCast] at f9
                  clear ej
                  clear HKI
                  go_wp2
                  go_meet
                  exact ⟨rfl, rfl⟩
                · have HV := hide (show okK L i = true by unfold okK; rw [f1, f2, f3, f4, f5]; simp)
                  clear HKI
                  go_wp2
                  go_meet
                  exact ⟨rfl, rfl⟩
                · have HV := hide (show okK L i = false by unfold okK; rw [f1, f2, f3, f4, f5, f6]; simp)
                  have HX := HV.out
                  rw [HKI.out] at HX
                  cases HX
                · have HV := hide (show okK L i = false by unfold okK; rw [f1, f2, f3, f4, f5, f6, f7]; simp)
                  have HX := HV.out
                  rw [HKI.out] at HX
                  cases HX
                · have HV := hide (show okK L i = false by unfold okK; rw [f1, f2, f3, f4, f5, f6, f7, f8]; simp)
                  have HX := HV.out
                  rw [HKI.out] at HX
                  cases HX
                · have HV := hide (show okK L i = true by unfold okK; rw [f1, f2, f3, f4, f5, f6, f7, f8]; simp)
                  obtain ⟨j, ej⟩ := Int.eq_ofNat_of_zero_le (show 0 ≤ L.loc i by simpa using f6)
                  have hj9 : j < 9 := by have h := f7; rw [ej] at h; simp at h; omega
                  have hji : (j : Int) < 9 := by omega
                  have ck := RA.out.cod.thing j 1 hj9 (by omega)
                  simp only [Ld.thingCell] at ck
                  rw [ej] at f6 f7 f8 x3
                  simp only [Int.toNat_natCast] at f8
                  clear ej
                  clear HKI
                  go_wp2
                  go_meet
                  exact ⟨rfl, rfl⟩
                · have HV := hide (show okK L i = false by unfold okK; rw [f1, f2, f3, f4, f5, f6]; simp)
                  have HX := HV.out
                  rw [HKI.out] at HX
                  cases HX
                · have HV := hide (show okK L i = true by unfold okK; rw [f1, f2, f3, f4, f5, f6, f7]; simp)
                  rw [f5] at x4
                  clear HKI
                  go_wp2
                  go_meet
                  exact ⟨rfl, rfl⟩
              case rest =>
                obtain ⟨rfl, rfl⟩ := hcut
                clear x1 x2 x3 x4
                go_wp2_with (refine wl_land (.tmp 1) rfl rfl _ L rfl RA.out.cod ?_)
                refine (root_any L (i : Int) _).mono ?_
                rintro e w5 ⟨rfl, hb5⟩
                have R5 := hide (RA.out.call hb5)
                obtain ⟨wh0, at0, op0, ok0, hrt⟩ : ∃ a b c d, rootL L (i : Int) = (a, b, c, d) := ⟨_, _, _, _, rfl⟩
                have HU := hide (show okU L i = !(!ok0 || ((wh0 == 0) && (decide (at0 < 0) || decide (5 < at0))) || ((wh0 == 1) && (decide (at0 < 0) || decide (5 < at0) || !L.here at0.toNat))) by unfold okU; rw [hrt])
                rw [hrt]
                simp only
                clear hb5 hrt RA
                by_cases hie : i = i0
                · subst hie
                  have HUI := hide HBAD.out
                  have key : (ok0 = false) ∨ (ok0 = true ∧ (wh0 == 0) = true ∧ decide (at0 < 0) = true) ∨ (ok0 = true ∧ (wh0 == 0) = true ∧ decide (at0 < 0) = false ∧ decide (5 < at0) = true) ∨ (ok0 = true ∧ (wh0 == 0) = true ∧ decide (at0 < 0) = false ∧ decide (5 < at0) = false ∧ (wh0 == 1) = false) ∨ (ok0 = true ∧ (wh0 == 0) = false ∧ (wh0 == 1) = true ∧ decide (at0 < 0) = true) ∨ (ok0 = true ∧ (wh0 == 0) = false ∧ (wh0 == 1) = true ∧ decide (at0 < 0) = false ∧ decide (5 < at0) = true) ∨ (ok0 = true ∧ (wh0 == 0) = false ∧ (wh0 == 1) = true ∧ decide (at0 < 0) = false ∧ decide (5 < at0) = false ∧ L.here at0.toNat = false) ∨ (ok0 = true ∧ (wh0 == 0) = false ∧ (wh0 == 1) = true ∧ decide (at0 < 0) = false ∧ decide (5 < at0) = false ∧ L.here at0.toNat = true) ∨ (ok0 = true ∧ (wh0 == 0) = false ∧ (wh0 == 1) = false) := by
                    have a1 : (wh0 == 0) = true → (wh0 == 1) = false := fun h => by simp at h; simp [h]
                    revert a1
                    cases ok0 <;> cases wh0 == 0 <;> cases wh0 == 1 <;> cases decide (at0 < 0) <;> cases decide (5 < at0) <;> cases L.here at0.toNat <;> simp
                  rcases key with f1 | ⟨f1, f2, f3⟩ | ⟨f1, f2, f3, f4⟩ | ⟨f1, f2, f3, f4, f5⟩ | ⟨f1, f2, f3, f4⟩ | ⟨f1, f2, f3, f4, f5⟩ | ⟨f1, f2, f3, f4, f5, f6⟩ | ⟨f1, f2, f3, f4, f5, f6⟩ | ⟨f1, f2, f3⟩
                  · have HV := hide (show okU L i = false by rw [HU.out, f1]; simp)
                    have HF := hide (refG_T hi (.inr HV.out))
                    rw [f1]
                    clear HU HUI HKI
                    go_wp2
                    go_ret
                    exact ⟨ret_bool HF.out.symm, R5.out.low⟩
                  · have HV := hide (show okU L i = false by rw [HU.out, f1, f2, f3]; simp)
                    have HF := hide (refG_T hi (.inr HV.out))
                    rw [f1]
                    clear HU HUI HKI
                    go_wp2
                    go_ret
                    exact ⟨ret_bool HF.out.symm, R5.out.low⟩
                  · have HV := hide (show okU L i = false by rw [HU.out, f1, f2, f3, f4]; simp)
                    have HF := hide (refG_T hi (.inr HV.out))
                    rw [f1]
                    clear HU HUI HKI
                    go_wp2
                    go_ret
                    exact ⟨ret_bool HF.out.symm, R5.out.low⟩
                  · have HV := hide (show okU L i = true by rw [HU.out, f1, f2, f3, f4, f5]; simp)
                    have HX := HV.out
                    rw [HUI.out] at HX
                    cases HX
                  · have HV := hide (show okU L i = false by rw [HU.out, f1, f2, f3, f4]; simp)
                    have HF := hide (refG_T hi (.inr HV.out))
                    rw [f1]
                    clear HU HUI HKI
                    go_wp2
                    go_ret
                    exact ⟨ret_bool HF.out.symm, R5.out.low⟩
                  · have HV := hide (show okU L i = false by rw [HU.out, f1, f2, f3, f4, f5]; simp)
                    have HF := hide (refG_T hi (.inr HV.out))
                    rw [f1]
                    clear HU HUI HKI
                    go_wp2
                    go_ret
                    exact ⟨ret_bool HF.out.symm, R5.out.low⟩
                  · have HV := hide (show okU L i = false by rw [HU.out, f1, f2, f3, f4, f5, f6]; simp)
                    have HF := hide (refG_T hi (.inr HV.out))
                    obtain ⟨j, ej⟩ := Int.eq_ofNat_of_zero_le (show 0 ≤ at0 by simpa using f4)
                    subst ej
                    have hj6 : j < 6 := by have h := f5; simp at h; omega
                    have hji : (j : Int) < 6 := by omega
                    have ck := R5.out.cod.being j 1 hj6 (by omega)
                    simp only [Ld.beingCell] at ck
                    rw [Int.toNat_natCast] at f6
                    rw [f6] at ck
                    rw [f1]
                    clear HU HUI HKI
                    go_wp2
                    go_ret
                    exact ⟨ret_bool HF.out.symm, R5.out.low⟩
                  · have HV := hide (show okU L i = true by rw [HU.out, f1, f2, f3, f4, f5, f6]; simp)
                    have HX := HV.out
                    rw [HUI.out] at HX
                    cases HX
                  · have HV := hide (show okU L i = true by rw [HU.out, f1, f2, f3]; simp)
                    have HX := HV.out
                    rw [HUI.out] at HX
                    cases HX
                · have HUI := hide (HLT.out i (by omega)).2
                  have key : (ok0 = false) ∨ (ok0 = true ∧ (wh0 == 0) = true ∧ decide (at0 < 0) = true) ∨ (ok0 = true ∧ (wh0 == 0) = true ∧ decide (at0 < 0) = false ∧ decide (5 < at0) = true) ∨ (ok0 = true ∧ (wh0 == 0) = true ∧ decide (at0 < 0) = false ∧ decide (5 < at0) = false ∧ (wh0 == 1) = false) ∨ (ok0 = true ∧ (wh0 == 0) = false ∧ (wh0 == 1) = true ∧ decide (at0 < 0) = true) ∨ (ok0 = true ∧ (wh0 == 0) = false ∧ (wh0 == 1) = true ∧ decide (at0 < 0) = false ∧ decide (5 < at0) = true) ∨ (ok0 = true ∧ (wh0 == 0) = false ∧ (wh0 == 1) = true ∧ decide (at0 < 0) = false ∧ decide (5 < at0) = false ∧ L.here at0.toNat = false) ∨ (ok0 = true ∧ (wh0 == 0) = false ∧ (wh0 == 1) = true ∧ decide (at0 < 0) = false ∧ decide (5 < at0) = false ∧ L.here at0.toNat = true) ∨ (ok0 = true ∧ (wh0 == 0) = false ∧ (wh0 == 1) = false) := by
                    have a1 : (wh0 == 0) = true → (wh0 == 1) = false := fun h => by simp at h; simp [h]
                    revert a1
                    cases ok0 <;> cases wh0 == 0 <;> cases wh0 == 1 <;> cases decide (at0 < 0) <;> cases decide (5 < at0) <;> cases L.here at0.toNat <;> simp
                  rcases key with f1 | ⟨f1, f2, f3⟩ | ⟨f1, f2, f3, f4⟩ | ⟨f1, f2, f3, f4, f5⟩ | ⟨f1, f2, f3, f4⟩ | ⟨f1, f2, f3, f4, f5⟩ | ⟨f1, f2, f3, f4, f5, f6⟩ | ⟨f1, f2, f3, f4, f5, f6⟩ | ⟨f1, f2, f3⟩
                  · have HV := hide (show okU L i = false by rw [HU.out, f1]; simp)
                    have HX := HV.out
                    rw [HUI.out] at HX
                    cases HX
                  · have HV := hide (show okU L i = false by rw [HU.out, f1, f2, f3]; simp)
                    have HX := HV.out
                    rw [HUI.out] at HX
                    cases HX
                  · have HV := hide (show okU L i = false by rw [HU.out, f1, f2, f3, f4]; simp)
                    have HX := HV.out
                    rw [HUI.out] at HX
                    cases HX
                  · have HV := hide (show okU L i = true by rw [HU.out, f1, f2, f3, f4, f5]; simp)
                    have HO := hide (show ∀ i', i' < i + 1 → okK L i' = true ∧ okU L i' = true from fun i' hi' => by
                      by_cases e : i' = i
                      · subst e; exact ⟨HKI.out, HV.out⟩
                      · exact HA.out i' (by omega))
                    rw [f1]
                    clear HU HUI HKI
                    go_wp2
                    go_roundw
                    case rel => first | exact ⟨i + 1, by omega, by go_num, R5.out, HO.out⟩ | ((repeat apply Exists.intro); exact ⟨⟨i + 1, by omega, by go_num, R5.out, HO.out⟩, rfl⟩)
                    case measure => simp [intOf]; omega
                  · have HV := hide (show okU L i = false by rw [HU.out, f1, f2, f3, f4]; simp)
                    have HX := HV.out
                    rw [HUI.out] at HX
                    cases HX
                  · have HV := hide (show okU L i = false by rw [HU.out, f1, f2, f3, f4, f5]; simp)
                    have HX := HV.out
                    rw [HUI.out] at HX
                    cases HX
                  · have HV := hide (show okU L i = false by rw [HU.out, f1, f2, f3, f4, f5, f6]; simp)
                    have HX := HV.out
                    rw [HUI.out] at HX
                    cases HX
                  · have HV := hide (show okU L i = true by rw [HU.out, f1, f2, f3, f4, f5, f6]; simp)
                    have HO := hide (show ∀ i', i' < i + 1 → okK L i' = true ∧ okU L i' = true from fun i' hi' => by
                      by_cases e : i' = i
                      · subst e; exact ⟨HKI.out, HV.out⟩
                      · exact HA.out i' (by omega))
                    obtain ⟨j, ej⟩ := Int.eq_ofNat_of_zero_le (show 0 ≤ at0 by simpa using f4)
                    subst ej
                    have hj6 : j < 6 := by have h := f5; simp at h; omega
                    have hji : (j : Int) < 6 := by omega
                    have ck := R5.out.cod.being j 1 hj6 (by omega)
                    simp only [Ld.beingCell] at ck
                    rw [Int.toNat_natCast] at f6
                    rw [f6] at ck
                    rw [f1]
                    clear HU HUI HKI
                    go_wp2
                    go_roundw
                    case rel => first | exact ⟨i + 1, by omega, by go_num, R5.out, HO.out⟩ | ((repeat apply Exists.intro); exact ⟨⟨i + 1, by omega, by go_num, R5.out, HO.out⟩, rfl⟩)
                    case measure => simp [intOf]; omega
                  · have HV := hide (show okU L i = true by rw [HU.out, f1, f2, f3]; simp)
                    have HO := hide (show ∀ i', i' < i + 1 → okK L i' = true ∧ okU L i' = true from fun i' hi' => by
                      by_cases e : i' = i
                      · subst e; exact ⟨HKI.out, HV.out⟩
                      · exact HA.out i' (by omega))
                    rw [f1]
                    clear HU HUI HKI
                    go_wp2
                    go_roundw
                    case rel => first | exact ⟨i + 1, by omega, by go_num, R5.out, HO.out⟩ | ((repeat apply Exists.intro); exact ⟨⟨i + 1, by omega, by go_num, R5.out, HO.out⟩, rfl⟩)
                    case measure => simp [intOf]; omega
            · exfalso
              have hi9 : i = 9 := by omega
              subst hi9
              have := HA.out i0 HI0.out
              rw [HBAD.out] at this
              simp at this
end Go.Proofs.YtaifjndkgfffpaaGreatDoor
