/-
  The document's own answer to whether a land is good: the contract. Written by a program.
-/
import Derived.Test.YtaifjndkgfffpaaGreatDoorMgN
import Derived.Test.YtaifjndkgfffpaaGreatDoorMgA
import Derived.Test.YtaifjndkgfffpaaGreatDoorMgE
namespace Go.Proofs.YtaifjndkgfffpaaGreatDoor
open Go.RowKit
set_option linter.unusedVariables false
def okR (L : Ld) (r d : Nat) : Bool := !(decide (L.exit r d < 0) || decide (6 < L.exit r d) || (L.shut r d && decide (L.exit r d = 0)))
def okB (L : Ld) (b : Nat) : Bool := !(decide (L.room b < 0) || decide (5 < L.room b) || decide (L.health b < 0) || decide (10 < L.health b) || decide (L.foe b < 0) || decide (6 < L.foe b) || (L.here b != (L.health b != 0)) || (!L.here b && (L.foe b != 0)))
def okK (L : Ld) (i : Nat) : Bool := !(decide (L.kind i < 0) || decide (3 < L.kind i) || ((L.kind i == 0) && L.on i) || ((L.kind i == 2) && L.on i && (L.wh i != 1)) || ((L.wh i == 2) && (decide (L.loc i < 0) || decide (8 < L.loc i) || (L.kind (L.loc i).toNat != 3))))
def okU (L : Ld) (i : Nat) : Bool := !(!(rootL L (i : Int)).2.2.2 || (((rootL L (i : Int)).1 == 0) && (decide ((rootL L (i : Int)).2.1 < 0) || decide (5 < (rootL L (i : Int)).2.1))) || (((rootL L (i : Int)).1 == 1) && (decide ((rootL L (i : Int)).2.1 < 0) || decide (5 < (rootL L (i : Int)).2.1) || !L.here (rootL L (i : Int)).2.1.toNat)))
def refG (L : Ld) : Bool := (List.range 6).all (fun r => (List.range 6).all (okR L r)) && (List.range 6).all (okB L) && (List.range 9).all (fun i => okK L i && okU L i)
theorem refG_R {L : Ld} {r d : Nat} (hr : r < 6) (hd : d < 6) (h : okR L r d = false) : refG L = false := by
  unfold refG
  rw [all_bad hr (all_bad hd h)]; rfl
theorem refG_B {L : Ld} {b : Nat} (hb : b < 6) (h : okB L b = false) : refG L = false := by
  unfold refG
  rw [all_bad hb h, Bool.and_false]; rfl
theorem refG_T {L : Ld} {i : Nat} (hi : i < 9) (h : okK L i = false ∨ okU L i = false) : refG L = false := by
  unfold refG
  rw [all_bad (f := fun i => okK L i && okU L i) hi (by rcases h with h | h <;> simp [h]), Bool.and_false]
theorem refG_all {L : Ld} (h1 : ∀ r, r < 6 → ∀ d, d < 6 → okR L r d = true) (h2 : ∀ b, b < 6 → okB L b = true) (h3 : ∀ i, i < 9 → okK L i = true ∧ okU L i = true) : refG L = true := by
  unfold refG
  rw [all_ok fun r hr => all_ok (h1 r hr), all_ok h2, all_ok (f := fun i => okK L i && okU L i) fun i hi => by rw [(h3 i hi).1, (h3 i hi).2]; rfl]; rfl
/-- The land lies where it was laid. -/
structure RgRel (L : Ld) (w wr : World) : Prop where
  cod : Cod wr w.heap.size L
  low : Below w.heap.size w wr
theorem RgRel.box {L : Ld} {w wr : World} (h : RgRel L w wr) (o : Obj) : RgRel L w (wr.alloc o) := ⟨h.cod.alloc o, h.low.alloc h.low.size o⟩
theorem RgRel.call {L : Ld} {w wr wr' : World} (h : RgRel L w wr) (hb : Below wr.heap.size wr wr') : RgRel L w wr' := ⟨h.cod.behind hb (Nat.le_refl _), h.low.trans (hb.mono h.low.size)⟩
/-
  The document's own answer to whether a land is good, where a room is not good: the contract. Written by a program.
-/
set_option maxRecDepth 100000 in
set_option maxHeartbeats 16000000 in
theorem goodland_R (L : Ld) (w : World) (hbad : ∃ r, r < 6 ∧ ∃ d, d < 6 ∧ okR L r d = false) : Calls Tryz.prog 10 #[.agg L.cells] w fun e w' => e = .returned (.bool (refG L)) ∧ Below w.heap.size w w' := by
  have HBADR := hide hbad
  clear hbad
  have R0 := hide (show RgRel L w (w.alloc (.cells L.cells 34)) from ⟨cod_new w L, below_box w _⟩)
  go_enter Tryz.func10, Tryz.ntmps10
  go_wp2_with (refine wl_rooms (.tmp 14) rfl rfl _ L rfl R0.out.cod ?_)
  go_loopw [16] (fun c wr => ∃ r : Nat, r ≤ 6 ∧ c = .int .i64 r ∧ RgRel L w wr ∧ ∀ r', r' < r → ∀ d, d < 6 → okR L r' d = true) (fun c _ => 6 - (intOf c).toNat)
  case atStart => exact ⟨0, by omega, rfl, R0.out, fun _ h => by omega⟩
  case round =>
    obtain ⟨r, hle, rfl, Rh, Ah⟩ := hrel
    have R := hide Rh
    have HA := hide Ah
    clear Rh Ah R0
    by_cases hr : r < 6
    · have hri : (r : Int) < 6 := by omega
      have RA := hide (R.out.box (.cells (L.rcells r) 25))
      have G := heap_alloc_new wr (.cells (L.rcells r) 25)
      have x2 : ∀ d, d < 6 → (wr.alloc (.cells (L.rcells r) 25)).cell? ⟨wr.heap.size, 2 + d, none⟩ = some (.int .i64 (L.exit r d)) := fun d hd => by
        rw [cell_of_row _ _ _ _ _ _ G, L.rcells_get r (2 + d) (by omega), Nat.add_comm]; simp [Ld.roomCell, hd]
      have x8 : ∀ d, d < 6 → (wr.alloc (.cells (L.rcells r) 25)).cell? ⟨wr.heap.size, 8 + d, none⟩ = some (.bool (L.shut r d)) := fun d hd => by
        rw [cell_of_row _ _ _ _ _ _ G, L.rcells_get r (8 + d) (by omega), show 8 + d = (d + 6) + 2 by omega]; simp [Ld.roomCell]
      have X2 := hide x2
      have X8 := hide x8
      clear x2 x8 G
      go_upto_region 4 with (first | (refine wl_iroom (.tmp 15) (.tmp 16) rfl rfl r L rfl rfl hr ?_) | (refine wl_newR (.tmp 4) (.tmp 18) rfl rfl _ r L rfl rfl rfl rfl ?_))
      generalize hwk : wr.alloc (.cells (L.rcells r) 25) = wk at *
      generalize hky : wr.heap.size = ky at *
      clear hwk hky R
      simp only [Act.put]
      go_wp2_with fail
      go_loop [19] (fun c => ∃ d : Nat, d ≤ 6 ∧ c = .int .i64 d ∧ ∀ d', d' < d → okR L r d' = true) (fun c => 6 - (intOf c).toNat)
      case atStart => exact ⟨0, by omega, rfl, fun _ h => by omega⟩
      case round =>
        obtain ⟨d, hld, rfl, Dh⟩ := hrel
        have HD := hide Dh
        clear Dh
        by_cases hd : d < 6
        · have hdi : (d : Int) < 6 := by omega
          have c2 := X2.out d hd
          have c8 := X8.out d hd
          have key : decide (L.exit r d < 0) = true ∨ (decide (L.exit r d < 0) = false ∧ decide (6 < L.exit r d) = true) ∨ (decide (L.exit r d < 0) = false ∧ decide (6 < L.exit r d) = false ∧ L.shut r d = false) ∨ (decide (L.exit r d < 0) = false ∧ decide (6 < L.exit r d) = false ∧ L.shut r d = true ∧ (L.exit r d == 0) = true) ∨ (decide (L.exit r d < 0) = false ∧ decide (6 < L.exit r d) = false ∧ L.shut r d = true ∧ (L.exit r d == 0) = false) := by
            cases decide (L.exit r d < 0) <;> cases decide (6 < L.exit r d) <;> cases L.shut r d <;> cases L.exit r d == 0 <;> simp
          rcases key with h1 | ⟨h1, h2⟩ | ⟨h1, h2, h3⟩ | ⟨h1, h2, h3, h4⟩ | ⟨h1, h2, h3, h4⟩
          · have HF := hide (refG_R hr hd (show okR L r d = false by unfold okR; rw [h1]; simp))
            go_wp2
            go_ret
            exact ⟨ret_bool HF.out.symm, RA.out.low⟩
          · have HF := hide (refG_R hr hd (show okR L r d = false by unfold okR; rw [h1, h2]; simp))
            go_wp2
            go_ret
            exact ⟨ret_bool HF.out.symm, RA.out.low⟩
          · have HO := hide (show ∀ d', d' < d + 1 → okR L r d' = true from fun d' hd' => by
              by_cases e : d' = d
              · subst e; unfold okR; rw [h1, h2, h3]; simp
              · exact HD.out d' (by omega))
            rw [h3] at c8
            go_wp2
            exact ⟨⟨d + 1, by omega, by go_num, HO.out⟩, by simp [intOf]; omega⟩
          · have HF := hide (refG_R hr hd (show okR L r d = false by unfold okR; rw [h1, h2, h3]; simpa using h4))
            rw [h3] at c8
            go_wp2
            go_ret
            exact ⟨ret_bool HF.out.symm, RA.out.low⟩
          · have HO := hide (show ∀ d', d' < d + 1 → okR L r d' = true from fun d' hd' => by
              by_cases e : d' = d
              · subst e; unfold okR; rw [h1, h2, h3]; simpa using h4
              · exact HD.out d' (by omega))
            rw [h3] at c8
            go_wp2
            exact ⟨⟨d + 1, by omega, by go_num, HO.out⟩, by simp [intOf]; omega⟩
        · have hd6 : d = 6 := by omega
          subst hd6
          have HO := hide (show ∀ r', r' < r + 1 → ∀ d, d < 6 → okR L r' d = true from fun r' hr' d hd' => by
            by_cases e : r' = r
            · subst e; exact HD.out d hd'
            · exact HA.out r' (by omega) d hd')
          go_wp2
          go_roundw
          case rel => exact ⟨r + 1, by omega, by go_num, RA.out, HO.out⟩
          case measure => simp [intOf]; omega
    · exfalso
      have hr6 : r = 6 := by omega
      subst hr6
      obtain ⟨r, hr, d, hd, hx⟩ := HBADR.out
      rw [HA.out r hr d hd] at hx
      cases hx
/-
  The document's own answer to whether a land is good, where a being is not good: the contract. Written by a program.
-/
set_option maxRecDepth 100000 in
set_option maxHeartbeats 16000000 in
theorem goodland_B (L : Ld) (w : World) (hpr : ∀ r, r < 6 → ∀ d, d < 6 → okR L r d = true) (hbad : ∃ b, b < 6 ∧ okB L b = false) : Calls Tryz.prog 10 #[.agg L.cells] w fun e w' => e = .returned (.bool (refG L)) ∧ Below w.heap.size w w' := by
  have HPR := hide hpr
  clear hpr
  have HBADB := hide hbad
  clear hbad
  have R0 := hide (show RgRel L w (w.alloc (.cells L.cells 34)) from ⟨cod_new w L, below_box w _⟩)
  go_enter Tryz.func10, Tryz.ntmps10
  go_wp2_with (refine wl_rooms (.tmp 14) rfl rfl _ L rfl R0.out.cod ?_)
  go_loopw [16] (fun c wr => ∃ r : Nat, r ≤ 6 ∧ c = .int .i64 r ∧ RgRel L w wr ∧ ∀ r', r' < r → ∀ d, d < 6 → okR L r' d = true) (fun c _ => 6 - (intOf c).toNat)
  case atStart => exact ⟨0, by omega, rfl, R0.out, fun _ h => by omega⟩
  case round =>
    obtain ⟨r, hle, rfl, Rh, Ah⟩ := hrel
    have R := hide Rh
    have HA := hide Ah
    clear Rh Ah R0
    by_cases hr : r < 6
    · have hri : (r : Int) < 6 := by omega
      have RA := hide (R.out.box (.cells (L.rcells r) 25))
      have G := heap_alloc_new wr (.cells (L.rcells r) 25)
      have x2 : ∀ d, d < 6 → (wr.alloc (.cells (L.rcells r) 25)).cell? ⟨wr.heap.size, 2 + d, none⟩ = some (.int .i64 (L.exit r d)) := fun d hd => by
        rw [cell_of_row _ _ _ _ _ _ G, L.rcells_get r (2 + d) (by omega), Nat.add_comm]; simp [Ld.roomCell, hd]
      have x8 : ∀ d, d < 6 → (wr.alloc (.cells (L.rcells r) 25)).cell? ⟨wr.heap.size, 8 + d, none⟩ = some (.bool (L.shut r d)) := fun d hd => by
        rw [cell_of_row _ _ _ _ _ _ G, L.rcells_get r (8 + d) (by omega), show 8 + d = (d + 6) + 2 by omega]; simp [Ld.roomCell]
      have X2 := hide x2
      have X8 := hide x8
      clear x2 x8 G
      go_upto_region 4 with (first | (refine wl_iroom (.tmp 15) (.tmp 16) rfl rfl r L rfl rfl hr ?_) | (refine wl_newR (.tmp 4) (.tmp 18) rfl rfl _ r L rfl rfl rfl rfl ?_))
      generalize hwk : wr.alloc (.cells (L.rcells r) 25) = wk at *
      generalize hky : wr.heap.size = ky at *
      clear hwk hky R
      simp only [Act.put]
      go_wp2_with fail
      go_loop [19] (fun c => ∃ d : Nat, d ≤ 6 ∧ c = .int .i64 d ∧ ∀ d', d' < d → okR L r d' = true) (fun c => 6 - (intOf c).toNat)
      case atStart => exact ⟨0, by omega, rfl, fun _ h => by omega⟩
      case round =>
        obtain ⟨d, hld, rfl, Dh⟩ := hrel
        have HD := hide Dh
        clear Dh
        by_cases hd : d < 6
        · have hdi : (d : Int) < 6 := by omega
          have c2 := X2.out d hd
          have c8 := X8.out d hd
          have key : decide (L.exit r d < 0) = true ∨ (decide (L.exit r d < 0) = false ∧ decide (6 < L.exit r d) = true) ∨ (decide (L.exit r d < 0) = false ∧ decide (6 < L.exit r d) = false ∧ L.shut r d = false) ∨ (decide (L.exit r d < 0) = false ∧ decide (6 < L.exit r d) = false ∧ L.shut r d = true ∧ (L.exit r d == 0) = true) ∨ (decide (L.exit r d < 0) = false ∧ decide (6 < L.exit r d) = false ∧ L.shut r d = true ∧ (L.exit r d == 0) = false) := by
            cases decide (L.exit r d < 0) <;> cases decide (6 < L.exit r d) <;> cases L.shut r d <;> cases L.exit r d == 0 <;> simp
          rcases key with h1 | ⟨h1, h2⟩ | ⟨h1, h2, h3⟩ | ⟨h1, h2, h3, h4⟩ | ⟨h1, h2, h3, h4⟩
          · have HX : okR L r d = false := by unfold okR; rw [h1]; simp
            rw [HPR.out r hr d hd] at HX
            cases HX
          · have HX : okR L r d = false := by unfold okR; rw [h1, h2]; simp
            rw [HPR.out r hr d hd] at HX
            cases HX
          · have HO := hide (show ∀ d', d' < d + 1 → okR L r d' = true from fun d' hd' => by
              by_cases e : d' = d
              · subst e; unfold okR; rw [h1, h2, h3]; simp
              · exact HD.out d' (by omega))
            rw [h3] at c8
            go_wp2
            exact ⟨⟨d + 1, by omega, by go_num, HO.out⟩, by simp [intOf]; omega⟩
          · have HX : okR L r d = false := by unfold okR; rw [h1, h2, h3]; simpa using h4
            rw [HPR.out r hr d hd] at HX
            cases HX
          · have HO := hide (show ∀ d', d' < d + 1 → okR L r d' = true from fun d' hd' => by
              by_cases e : d' = d
              · subst e; unfold okR; rw [h1, h2, h3]; simpa using h4
              · exact HD.out d' (by omega))
            rw [h3] at c8
            go_wp2
            exact ⟨⟨d + 1, by omega, by go_num, HO.out⟩, by simp [intOf]; omega⟩
        · have hd6 : d = 6 := by omega
          subst hd6
          have HO := hide (show ∀ r', r' < r + 1 → ∀ d, d < 6 → okR L r' d = true from fun r' hr' d hd' => by
            by_cases e : r' = r
            · subst e; exact HD.out d hd'
            · exact HA.out r' (by omega) d hd')
          go_wp2
          go_roundw
          case rel => exact ⟨r + 1, by omega, by go_num, RA.out, HO.out⟩
          case measure => simp [intOf]; omega
    · have hr6 : r = 6 := by omega
      subst hr6
      have HA1 := hide (show ∀ r, r < 6 → ∀ d, d < 6 → okR L r d = true from HA.out)
      clear HA
      go_wp2_with (refine wl_beings (.tmp 49) rfl rfl _ L rfl R.out.cod ?_)
      go_loopw [51] (fun c wr => ∃ b : Nat, b ≤ 6 ∧ c = .int .i64 b ∧ RgRel L w wr ∧ ∀ b', b' < b → okB L b' = true) (fun c _ => 6 - (intOf c).toNat)
      case atStart => exact ⟨0, by omega, rfl, R.out, fun _ h => by omega⟩
      case round =>
        obtain ⟨b, hlb, rfl, Rh, Ah⟩ := hrel
        have R2 := hide Rh
        have HA := hide Ah
        clear Rh Ah R
        by_cases hb : b < 6
        · have hbi : (b : Int) < 6 := by omega
          have RA := hide (R2.out.box (.cells (L.bcells b) 31))
          have G := heap_alloc_new wr (.cells (L.bcells b) 31)
          have x1 : (wr.alloc (.cells (L.bcells b) 31)).cell? ⟨wr.heap.size, 1, none⟩ = some (.bool (L.here b)) := by rw [cell_of_row _ _ _ _ _ _ G]; rfl
          have x3 : (wr.alloc (.cells (L.bcells b) 31)).cell? ⟨wr.heap.size, 3, none⟩ = some (.int .i64 (L.room b)) := by rw [cell_of_row _ _ _ _ _ _ G]; rfl
          have x4 : (wr.alloc (.cells (L.bcells b) 31)).cell? ⟨wr.heap.size, 4, none⟩ = some (.int .i64 (L.health b)) := by rw [cell_of_row _ _ _ _ _ _ G]; rfl
          have x5 : (wr.alloc (.cells (L.bcells b) 31)).cell? ⟨wr.heap.size, 5, none⟩ = some (.int .i64 (L.foe b)) := by rw [cell_of_row _ _ _ _ _ _ G]; rfl
          clear G
          go_upto_region 14 with (first | (refine wl_ibeing (.tmp 50) (.tmp 51) rfl rfl b L rfl rfl hb ?_) | (refine wl_newB (.tmp 7) (.tmp 53) rfl rfl _ b L rfl rfl rfl rfl ?_))
          generalize hwk : wr.alloc (.cells (L.bcells b) 31) = wk at *
          generalize hky : wr.heap.size = ky at *
          clear hwk hky R2
          simp only [Act.put]
          have key : decide (L.room b < 0) = true ∨ (decide (L.room b < 0) = false ∧ (decide (5 < L.room b) = true ∨ (decide (5 < L.room b) = false ∧ (decide (L.health b < 0) = true ∨ (decide (L.health b < 0) = false ∧ (decide (10 < L.health b) = true ∨ (decide (10 < L.health b) = false ∧ (decide (L.foe b < 0) = true ∨ (decide (L.foe b < 0) = false ∧ (decide (6 < L.foe b) = true ∨ (decide (6 < L.foe b) = false ∧ ((!(L.here b == (L.health b != 0))) = true ∨ ((!(L.here b == (L.health b != 0))) = false ∧ (L.here b = true ∨ (L.here b = false ∧ ((L.foe b != 0) = true ∨ (L.foe b != 0) = false)))))))))))))))) := by
            cases decide (L.room b < 0) <;> cases decide (5 < L.room b) <;> cases decide (L.health b < 0) <;> cases decide (10 < L.health b) <;> cases decide (L.foe b < 0) <;> cases decide (6 < L.foe b) <;> cases (!(L.here b == (L.health b != 0))) <;> cases L.here b <;> cases L.foe b != 0 <;> simp
          rcases key with h1 | ⟨h1, h2 | ⟨h2, h3 | ⟨h3, h4 | ⟨h4, h5 | ⟨h5, h6 | ⟨h6, h7 | ⟨h7, h8 | ⟨h8, h9 | h9⟩⟩⟩⟩⟩⟩⟩⟩
          · have HF := hide (refG_B hb (show okB L b = false by unfold okB; rw [show (L.here b != (L.health b != 0)) = (!(L.here b == (L.health b != 0))) from rfl, h1]; simp))
            go_wp2
            go_ret
            exact ⟨ret_bool HF.out.symm, RA.out.low⟩
          · have HF := hide (refG_B hb (show okB L b = false by unfold okB; rw [show (L.here b != (L.health b != 0)) = (!(L.here b == (L.health b != 0))) from rfl, h1, h2]; simp))
            go_wp2
            go_ret
            exact ⟨ret_bool HF.out.symm, RA.out.low⟩
          · have HF := hide (refG_B hb (show okB L b = false by unfold okB; rw [show (L.here b != (L.health b != 0)) = (!(L.here b == (L.health b != 0))) from rfl, h1, h2, h3]; simp))
            go_wp2
            go_ret
            exact ⟨ret_bool HF.out.symm, RA.out.low⟩
          · have HF := hide (refG_B hb (show okB L b = false by unfold okB; rw [show (L.here b != (L.health b != 0)) = (!(L.here b == (L.health b != 0))) from rfl, h1, h2, h3, h4]; simp))
            go_wp2
            go_ret
            exact ⟨ret_bool HF.out.symm, RA.out.low⟩
          · have HF := hide (refG_B hb (show okB L b = false by unfold okB; rw [show (L.here b != (L.health b != 0)) = (!(L.here b == (L.health b != 0))) from rfl, h1, h2, h3, h4, h5]; simp))
            go_wp2
            go_ret
            exact ⟨ret_bool HF.out.symm, RA.out.low⟩
          · have HF := hide (refG_B hb (show okB L b = false by unfold okB; rw [show (L.here b != (L.health b != 0)) = (!(L.here b == (L.health b != 0))) from rfl, h1, h2, h3, h4, h5, h6]; simp))
            go_wp2
            go_ret
            exact ⟨ret_bool HF.out.symm, RA.out.low⟩
          · have HF := hide (refG_B hb (show okB L b = false by unfold okB; rw [show (L.here b != (L.health b != 0)) = (!(L.here b == (L.health b != 0))) from rfl, h1, h2, h3, h4, h5, h6, h7]; simp))
            go_wp2
            go_ret
            exact ⟨ret_bool HF.out.symm, RA.out.low⟩
          · have HO := hide (show ∀ b', b' < b + 1 → okB L b' = true from fun b' hb' => by
              by_cases e : b' = b
              · subst e; unfold okB; rw [show (L.here b' != (L.health b' != 0)) = (!(L.here b' == (L.health b' != 0))) from rfl, h1, h2, h3, h4, h5, h6, h7, h8]; simp
              · exact HA.out b' (by omega))
            rw [h8] at x1
            have h7b : (L.health b != 0) = true := by rw [h8] at h7; simpa using h7
            clear h7
            go_wp2
            go_roundw
            case rel => exact ⟨b + 1, by omega, by go_num, RA.out, HO.out⟩
            case measure => simp [intOf]; omega
          · have HF := hide (refG_B hb (show okB L b = false by unfold okB; rw [show (L.here b != (L.health b != 0)) = (!(L.here b == (L.health b != 0))) from rfl, h1, h2, h3, h4, h5, h6, h7, h8, h9]; simp))
            rw [h8] at x1
            have h7b : (L.health b != 0) = false := by rw [h8] at h7; simpa using h7
            clear h7
            go_wp2
            go_ret
            exact ⟨ret_bool HF.out.symm, RA.out.low⟩
          · have HO := hide (show ∀ b', b' < b + 1 → okB L b' = true from fun b' hb' => by
              by_cases e : b' = b
              · subst e; unfold okB; rw [show (L.here b' != (L.health b' != 0)) = (!(L.here b' == (L.health b' != 0))) from rfl, h1, h2, h3, h4, h5, h6, h7, h8, h9]; simp
              · exact HA.out b' (by omega))
            rw [h8] at x1
            have h7b : (L.health b != 0) = false := by rw [h8] at h7; simpa using h7
            clear h7
            go_wp2
            go_roundw
            case rel => exact ⟨b + 1, by omega, by go_num, RA.out, HO.out⟩
            case measure => simp [intOf]; omega
        · exfalso
          have hb6 : b = 6 := by omega
          subst hb6
          obtain ⟨b, hb, hx⟩ := HBADB.out
          rw [HA.out b hb] at hx
          cases hx
end Go.Proofs.YtaifjndkgfffpaaGreatDoor
