/-
  A door is opened or closed: the contract.
-/
import Derived.Test.YtaifjndkgfffpaaDoorMgBC
import Derived.Test.YtaifjndkgfffpaaDoorRuWalk
namespace Go.Proofs.YtaifjndkgfffpaaDoor
open Go.RowKit
set_option linter.unusedVariables false

def isSoS : ByteArray := ⟨#[73, 116, 32, 105, 115, 32, 115, 111, 46]⟩
def doorT : ByteArray := ⟨#[100, 111, 111, 114]⟩
/-- A door's two sides are set. -/
def sideL (L : Ld) (r d : Nat) (x : Bool) : Ld :=
  if L.exit (L.exit r d - 1).toNat (oppN d) = (r : Int) + 1 then (L.setShut r d x).setShut (L.exit r d - 1).toNat (oppN d) x else L.setShut r d x
def doorL (L : Ld) (b d : Nat) (C : Chg) : Ld := if exitL L b d = 0 then L else if shutL L b d ≠ C.on then L else sideL L (L.room b).toNat d (!C.on)
def doorE (L : Ld) (b d : Nat) (C : Chg) : List Ev :=
  if exitL L b d = 0 then [tellE L b noThingS] else if shutL L b d ≠ C.on then [tellE L b isSoS]
  else [allE (doorL L b d C) { evN (doorL L b d C) C.event b with thing := doorT }]
theorem opp_lt {d : Nat} (hd : d < 6) : oppN d < 6 := by
  match d, hd with
  | 0, _ | 1, _ | 2, _ | 3, _ | 4, _ | 5, _ => decide
theorem side_evN (L : Ld) (r d : Nat) (x : Bool) (kind : Int) (b : Nat) : evN (sideL L r d x) kind b = evN L kind b := by
  unfold sideL; split <;> rfl

set_option maxRecDepth 100000 in
set_option maxHeartbeats 4000000 in
theorem rdoor_any {w0 : World} {L : Ld} {Es : List Ev} {w : World} (hS : Sn 62 [] w0 L Es w) (hf : Fine L) (b d : Nat) (hb : b < 6) (hd : d < 6) (C : Chg) (hlen : Es.length ≤ 800000) :
    Calls Tryd.prog 62 #[.pointer (some ⟨w0.heap.size, 0, none⟩), .int .i64 (b : Int), .int .i64 (d : Int), .agg C.cells] w fun e w' => e = .returned (.tuple #[]) ∧ Sn 62 [] w0 (doorL L b d C) (Es ++ doorE L b d C) w' ∧ Stp w0.heap.size 165 w w' := by
  obtain ⟨r, hr, er⟩ := hf.room b hb
  have eE : exitL L b d = L.exit r d := by unfold exitL; rw [er]; rfl
  have eS : shutL L b d = L.shut r d := by unfold shutL; rw [er]; rfl
  have eR : (L.room b).toNat = r := by rw [er]; rfl
  have hl := hS.lt
  have X0 := hide (hS.alloc (.cells C.cells 101))
  have T0 := hide (Stp.below (o := 165) (below_box w (.cells C.cells 101)) hS.lt)
  have G0 := heap_alloc_new w (.cells C.cells 101)
  have k1 : (w.alloc (.cells C.cells 101)).cell? ⟨w.heap.size, 1, none⟩ = some (.int .i64 C.event) := by rw [cell_of_row _ _ _ _ _ _ G0]; rfl
  have k2 : (w.alloc (.cells C.cells 101)).cell? ⟨w.heap.size, 2, none⟩ = some (.bool C.on) := by rw [cell_of_row _ _ _ _ _ _ G0]; rfl
  have c3 := X0.out.being b 3 hb (by omega)
  have cE := X0.out.room r (2 + d) hr (by omega)
  have cS := X0.out.room r (8 + d) hr (by omega)
  have fS := X0.out.soft (r * 14 + 8 + d)
  rw [show r * 14 + (2 + d) = r * 14 + 2 + d by omega] at cE
  rw [show r * 14 + (8 + d) = r * 14 + 8 + d by omega] at cS
  have e1 : ∀ (M : Ld) (r d : Nat), d < 6 → M.roomCell r (2 + d) = .int .i64 (M.exit r d) := fun M r d hd => by rw [Nat.add_comm]; simp [Ld.roomCell, hd]
  have e2 : ∀ (M : Ld) (r d : Nat), M.roomCell r (8 + d) = .bool (M.shut r d) := fun M r d => by rw [show 8 + d = (d + 6) + 2 by omega]; simp [Ld.roomCell]
  have E1 := hide e1
  have E2 := hide e2
  rw [e1 _ _ _ hd] at cE
  rw [e2] at cS
  simp only [Ld.beingCell] at c3
  rw [er] at c3
  have HF := hide hf
  have hbi : (b : Int) < 6 := by omega
  have hri : (r : Int) < 6 := by omega
  have hdi : (d : Int) < 6 := by omega
  have hne : w.heap.size ≠ w0.heap.size := by omega
  have hne2 : w0.heap.size ≠ w.heap.size := by omega
  clear hS hf er e2 e1 G0
  by_cases h0 : L.exit r d = 0
  · have HE := hide (show doorE L b d C = [tellE L b noThingS] by unfold doorE; rw [eE, if_pos h0])
    have HL := hide (show doorL L b d C = L by unfold doorL; rw [eE, if_pos h0])
    have hb0 : (L.exit r d == 0) = true := by simp [h0]
    clear h0 eE eS eR
    go_enter Tryd.func62, Tryd.ntmps62
    go_upto_region 1 with fail
    generalize w.alloc (.cells C.cells 101) = wa at *
    go_wp2_with fail
    refine (rtell_any X0.out b hb _ (by omega)).mono ?_
    rintro e w2 ⟨rfl, S2, T2⟩
    have A := hide S2
    have B := hide (T0.out.trans T2)
    clear S2 T2
    go_wp2
    go_end0
    exact ⟨rfl, by rw [HE.out, HL.out]; exact A.out, B.out⟩
  · have hb0 : (L.exit r d == 0) = false := by simp [h0]
    by_cases h1 : L.shut r d ≠ C.on
    · have HE := hide (show doorE L b d C = [tellE L b isSoS] by unfold doorE; rw [eE, if_neg h0, eS, if_pos h1])
      have HL := hide (show doorL L b d C = L by unfold doorL; rw [eE, if_neg h0, eS, if_pos h1])
      have hb1 : (!(L.shut r d == C.on)) = true := by simpa using h1
      clear h0 h1 eE eS eR
      go_enter Tryd.func62, Tryd.ntmps62
      go_upto_region 1 with fail
      generalize w.alloc (.cells C.cells 101) = wa at *
      go_wp2_with fail
      go_quiet (fail)
      go_wp2_with fail
      refine (rtell_any (X0.out.drewN _) b hb _ (by omega)).mono ?_
      rintro e w2 ⟨rfl, S2, T2⟩
      have A := hide S2
      have B := hide (T0.out.trans ((X0.out.stp (below_drewN (Below.refl _ _) _) 165).trans T2))
      clear S2 T2
      go_wp2
      go_end0
      exact ⟨rfl, by rw [HE.out, HL.out]; exact A.out, B.out⟩
    · have hb1 : (!(L.shut r d == C.on)) = false := by simpa using h1
      obtain ⟨t, ht, et⟩ : ∃ t : Nat, t < 6 ∧ L.exit r d = (t : Int) + 1 := by
        rcases HF.out.exit r d hr hd with h | h
        · exact absurd h h0
        · exact h
      have HL0 : doorL L b d C = sideL L r d (!C.on) := by unfold doorL; rw [eE, if_neg h0, eS, if_neg h1, eR]
      have HL := hide HL0
      have HE := hide (show doorE L b d C = [allE (sideL L r d (!C.on)) { evN (sideL L r d (!C.on)) C.event b with thing := doorT }] by unfold doorE; rw [eE, if_neg h0, eS, if_neg h1, HL0])
      have et2 : (L.exit r d - 1).toNat = t := by rw [et]; omega
      have HD0 : sideL L r d (!C.on) = if L.exit t (oppN d) = (r : Int) + 1 then (L.setShut r d (!C.on)).setShut t (oppN d) (!C.on) else L.setShut r d (!C.on) := by unfold sideL; rw [et2]
      have hod := opp_lt hd
      have hodi : (oppN d : Int) < 6 := by omega
      have hti : (t : Int) < 6 := by omega
      rw [et] at cE
      rw [et] at hb0
      have ET := hide et
      have hw : wrap64 ((t : Int) + 1 - 1) = (t : Int) := by rw [show (t : Int) + 1 - 1 = (t : Int) by omega]; simp only [wrap64]; omega
      clear h0 h1 eE eS eR HL0 et et2
      have HD := hide HD0
      clear HD0
      go_enter Tryd.func62, Tryd.ntmps62
      go_upto_region 1 with fail
      generalize w.alloc (.cells C.cells 101) = wa at *
      go_wp2_with fail
      go_quiet (fail)
      go_wp2_with fail
      go_region
      go_wp2_with fail
      have Y0 := hide (X0.out.drewN (nq + 1))
      have S2 : Hid (Sn 62 [] w0 (L.setShut r d (!C.on)) Es ((wa.drewN (nq + 1)).setCell ⟨w0.heap.size, r * 14 + 8 + d, none⟩ (.bool (!C.on)))) := Y0.out.set (by omega) (by rw [show r * 14 + 8 + d = r * 14 + (8 + d) by omega]; exact L.up_shut r d hr hd (!C.on))
      have T2 : Hid (Stp w0.heap.size 165 w ((wa.drewN (nq + 1)).setCell ⟨w0.heap.size, r * 14 + 8 + d, none⟩ (.bool (!C.on)))) := T0.out.trans ((X0.out.stp (below_drewN (Below.refl _ _) (nq + 1)) 165).trans (Stp.put (by omega)))
      refine (opposite_any d hd _).mono ?_
      rintro e w3 ⟨rfl, hw3⟩
      have hh : w3.heap[w.heap.size]? = wa.heap[w.heap.size]? := by rw [hw3, Below.heap_setCell _ _ _ _ (by simp; omega)]; rfl
      have q1 : w3.cell? ⟨w.heap.size, 1, none⟩ = some (.int .i64 C.event) := by rw [← k1]; simp only [World.cell?, hh]
      have q2 : w3.cell? ⟨w.heap.size, 2, none⟩ = some (.bool C.on) := by rw [← k2]; simp only [World.cell?, hh]
      rw [← hw3] at S2 T2
      have dE := S2.out.room r (2 + d) hr (by omega)
      have tE := S2.out.room t (2 + oppN d) ht (by omega)
      have tS := S2.out.room t (8 + oppN d) ht (by omega)
      have fT := S2.out.soft (t * 14 + 8 + oppN d)
      rw [show r * 14 + (2 + d) = r * 14 + 2 + d by omega, E1.out _ _ _ hd] at dE
      rw [show t * 14 + (2 + oppN d) = t * 14 + 2 + oppN d by omega, E1.out _ _ _ hod] at tE
      rw [show t * 14 + (8 + oppN d) = t * 14 + 8 + oppN d by omega, E2.out] at tS
      change w3.cell? _ = some (.int .i64 (L.exit r d)) at dE
      change w3.cell? _ = some (.int .i64 (L.exit t (oppN d))) at tE
      rw [ET.out] at dE
      clear hw3 hh k1 k2 c3 cE cS fS X0 T0 Y0 hb0 hb1 ET
      generalize hod2 : oppN d = od at *
      have HO := hide hod2
      clear hod2
      by_cases hx : L.exit t od = (r : Int) + 1
      · have HD2 := hide (show sideL L r d (!C.on) = (L.setShut r d (!C.on)).setShut t od (!C.on) by rw [HD.out, if_pos hx])
        have hxb : (L.exit t od == (r : Int) + 1) = true := by simp [hx]
        clear hx HD
        go_wp2_with fail
        go_quiet (fail)
        go_wp2_with fail
        go_region
        have S4 : Hid (Sn 62 [] w0 (sideL L r d (!C.on)) Es ((w3.drewN (nq + 1)).setCell ⟨w0.heap.size, t * 14 + 8 + od, none⟩ (.bool (!C.on)))) := by
          rw [HD2.out]
          exact (S2.out.drewN (nq + 1)).set (by omega) (by rw [show t * 14 + 8 + od = t * 14 + (8 + od) by omega]; exact (L.setShut r d (!C.on)).up_shut t od ht hod (!C.on))
        have T4 : Hid (Stp w0.heap.size 165 w ((w3.drewN (nq + 1)).setCell ⟨w0.heap.size, t * 14 + 8 + od, none⟩ (.bool (!C.on)))) := T2.out.trans ((S2.out.stp (below_drewN (Below.refl _ _) (nq + 1)) 165).trans (Stp.put (by omega)))
        clear HD2
        generalize sideL L r d (!C.on) = M at *
        go_wp2_with fail
        refine (revent_lit S4.out C.event b hb).mono ?_
        rintro e w5 ⟨rfl, hb5⟩
        have S5 := hide (S4.out.below hb5)
        have T5 := hide (T4.out.trans (S4.out.stp hb5 165))
        clear hb5 S4 T4 q1 q2 dE tE tS fT S2 T2
        go_wp2_with (first | (refine wl_new 52 (.tmp 12) (.tmp 70) rfl rfl _ _ rfl rfl rfl Tryd.sizeEvent rfl (by simp [Value.oneCell']) ?_) | (refine wl_event (.tmp 12) rfl rfl _ { evN M C.event b with thing := doorT } rfl (heap_alloc_new w5 _) ?_))
        refine (happens_any (S5.out.alloc _) { evN M C.event b with thing := doorT } (by omega)).mono ?_
        rintro e w6 ⟨rfl, S6h, T6h⟩
        have S6 := hide S6h
        have T6 := hide (T5.out.trans ((S5.out.stp (below_box w5 _) 165).trans T6h))
        clear S6h T6h S5 T5
        go_wp2
        go_end0
        exact ⟨rfl, by rw [HL.out, HE.out]; exact S6.out, T6.out⟩
      · have HD2 := hide (show sideL L r d (!C.on) = L.setShut r d (!C.on) by rw [HD.out, if_neg hx])
        have hxb : (L.exit t od == (r : Int) + 1) = false := by simp [hx]
        clear hx HD
        go_wp2_with fail
        go_quiet (fail)
        have S4 : Hid (Sn 62 [] w0 (sideL L r d (!C.on)) Es (w3.drewN nq)) := by
          rw [HD2.out]
          exact S2.out.drewN nq
        have T4 : Hid (Stp w0.heap.size 165 w (w3.drewN nq)) := T2.out.trans (S2.out.stp (below_drewN (Below.refl _ _) nq) 165)
        clear HD2
        generalize sideL L r d (!C.on) = M at *
        go_wp2_with fail
        refine (revent_lit S4.out C.event b hb).mono ?_
        rintro e w5 ⟨rfl, hb5⟩
        have S5 := hide (S4.out.below hb5)
        have T5 := hide (T4.out.trans (S4.out.stp hb5 165))
        clear hb5 S4 T4 q1 q2 dE tE tS fT S2 T2
        go_wp2_with (first | (refine wl_new 52 (.tmp 12) (.tmp 70) rfl rfl _ _ rfl rfl rfl Tryd.sizeEvent rfl (by simp [Value.oneCell']) ?_) | (refine wl_event (.tmp 12) rfl rfl _ { evN M C.event b with thing := doorT } rfl (heap_alloc_new w5 _) ?_))
        refine (happens_any (S5.out.alloc _) { evN M C.event b with thing := doorT } (by omega)).mono ?_
        rintro e w6 ⟨rfl, S6h, T6h⟩
        have S6 := hide S6h
        have T6 := hide (T5.out.trans ((S5.out.stp (below_box w5 _) 165).trans T6h))
        clear S6h T6h S5 T5
        go_wp2
        go_end0
        exact ⟨rfl, by rw [HL.out, HE.out]; exact S6.out, T6.out⟩
end Go.Proofs.YtaifjndkgfffpaaDoor
