/-
  A direction's name; what a verb turns: contracts.
-/
import Derived.Test.YtaifjndkgfffpaaGreatDoorMgI
import Derived.Test.YtaifjndkgfffpaaGreatDoorMgB
import Derived.Test.YtaifjndkgfffpaaGreatDoorMgG
import Derived.Test.YtaifjndkgfffpaaGreatDoorMgF
namespace Go.Proofs.YtaifjndkgfffpaaGreatDoor
open Go.RowKit
set_option linter.unusedVariables false
/-- Whose name that is. -/
def dirL (l : List UInt8) : Option Nat := (verbs.take 6).findIdx? (fun v => decide (v = l))
def dirA (l : List UInt8) : Int × Bool := match dirL l with | some d => ((d : Int), true) | none => (0, false)
def NoDir (l : List UInt8) (k : Nat) : Prop := ∀ j, j < k → verbs.getD j [] ≠ l

theorem take_getD (j : Nat) (hj : j < 6) : verbs.getD j [] = (verbs.take 6)[j]'(by simp [verbs_len]; omega) := by
  have hl := verbs_len
  simp [List.getD, List.getElem?_eq_getElem (show j < verbs.length by omega)]
theorem dir_at {l : List UInt8} {k : Nat} (hk : k < 6) (hn : NoDir l k) (h : verbs.getD k [] = l) : dirA l = ((k : Int), true) := by
  have : dirL l = some k := by
    unfold dirL
    rw [List.findIdx?_eq_some_iff_getElem]
    refine ⟨by simp [verbs_len]; omega, ?_, fun j hj => ?_⟩
    · rw [← take_getD k hk]; simpa using h
    · rw [← take_getD j (by omega)]; simpa using hn j hj
  simp [dirA, this]
theorem dir_none {l : List UInt8} (hn : NoDir l 6) : dirA l = (0, false) := by
  have : dirL l = none := by
    unfold dirL
    rw [List.findIdx?_eq_none_iff]
    intro v hv
    obtain ⟨j, hj, rfl⟩ := List.getElem_of_mem hv
    have hj6 : j < 6 := by simp [verbs_len] at hj; omega
    rw [← take_getD j hj6]
    simpa using hn j hj6
  simp [dirA, this]

theorem ret_dir {n m : Int} {a b : Bool} (h : (n, a) = (m, b)) : Ending.returned (.tuple #[.int .i64 n, .bool a]) = .returned (.tuple #[.int .i64 m, .bool b]) := by
  simp at h; rw [h.1, h.2]

set_option maxHeartbeats 2000000 in
set_option maxRecDepth 100000 in
theorem dir_any (s : ByteArray) (w : World) (hv : Vb w) :
    Calls Tryz.prog 36 #[.string s] w fun e w' => e = .returned (.tuple #[.int .i64 (dirA s.data.toList).1, .bool (dirA s.data.toList).2]) ∧ w' = w := by
  have hv := hide hv
  have hbt : ∀ l : List UInt8, (bs l).toList = l := fun l => by rw [Lib.toList_data, bs_data]
  go_enter Tryz.func36, Tryz.ntmps36
  go_wp2
  go_loop [5] (fun v => ∃ k : Nat, v = .int .i64 k ∧ k ≤ 6 ∧ Hid (NoDir s.data.toList k)) (fun v => 6 - (intOf v).toNat)
  case atStart => exact ⟨0, rfl, by omega, fun j hj => by omega⟩
  case round =>
    obtain ⟨k, rfl, hk, HN⟩ := hrel
    by_cases hlt : k < 6
    · have hc := hv.out.cell k (by omega)
      generalize hV : verbs.getD k [] = V at hc
      cases hp : (V == s.toList)
      · have HNN : Hid (NoDir s.data.toList (k + 1)) := fun j hj => by
          by_cases e : j = k
          · subst e; rw [hV]; intro e2; rw [Lib.toList_data, e2] at hp; simp at hp
          · exact HN.out j (by omega)
        clear hV
        go_wp2
        exact ⟨⟨k + 1, by go_num, hlt, HNN.out⟩, by simp [intOf]; omega⟩
      · have HV := hide (dir_at hlt HN.out (show verbs.getD k [] = s.data.toList by rw [hV]; rw [Lib.toList_data] at hp; simpa using hp))
        clear hV
        go_wp2
        go_ret2
        exact ⟨ret_dir HV.out.symm, rfl⟩
    · have hkk : k = 6 := by omega
      subst hkk
      have HV := hide (dir_none HN.out)
      go_wp2
      go_ret2
      exact ⟨ret_dir HV.out.symm, rfl⟩
/-- What comes of a verb that turns things. -/
structure Chg where
  kind : Int
  event : Int
  on : Bool
  behind : Bool
def Chg.cells (C : Chg) : Array Value := #[.int .i64 C.kind, .int .i64 C.event, .bool C.on, .bool C.behind]
theorem Tryz.sizeChange : (Tryz.prog.info? 75).map (·.size) = some 4 := by kernel_rfl
def turnedC (v : Int) : Chg := if v = 12 then ⟨3, 8, true, true⟩ else if v = 13 then ⟨3, 9, false, false⟩ else if v = 14 then ⟨1, 10, true, true⟩ else if v = 15 then ⟨1, 11, false, false⟩ else if v = 16 then ⟨2, 12, true, false⟩ else ⟨2, 13, false, true⟩

set_option maxRecDepth 100000 in
set_option maxHeartbeats 2000000 in
theorem turned_any (v : Int) (w : World) : Calls Tryz.prog 38 #[.int .i64 v] w fun e w' => e = .returned (.agg (turnedC v).cells) ∧ Below w.heap.size w w' := by
  by_cases h12 : v = 12
  · have HV := hide (show turnedC v = ⟨3, 8, true, true⟩ by subst h12; rfl)
    subst h12
    go_enter Tryz.func38, Tryz.ntmps38
    go_wp2
    refine bodyPost_ret (v := .agg (turnedC 12).cells) (results_cell_row rfl _ _ w.heap.size 75 (turnedC 12).cells (0, 0) _ rfl (heap_alloc_new w _) Tryz.underlying75 rfl Tryz.sizeChange) rfl ⟨rfl, (Below.refl _ _).alloc (Nat.le_refl _) _⟩
  have b12 : (v == 12) = false := by simp [h12]
  by_cases h13 : v = 13
  · have HV := hide (show turnedC v = ⟨3, 9, false, false⟩ by subst h13; rfl)
    subst h13
    go_enter Tryz.func38, Tryz.ntmps38
    go_wp2
    refine bodyPost_ret (v := .agg (turnedC 13).cells) (results_cell_row rfl _ _ w.heap.size 75 (turnedC 13).cells (0, 0) _ rfl (heap_alloc_new w _) Tryz.underlying75 rfl Tryz.sizeChange) rfl ⟨rfl, (Below.refl _ _).alloc (Nat.le_refl _) _⟩
  have b13 : (v == 13) = false := by simp [h13]
  by_cases h14 : v = 14
  · have HV := hide (show turnedC v = ⟨1, 10, true, true⟩ by subst h14; rfl)
    subst h14
    go_enter Tryz.func38, Tryz.ntmps38
    go_wp2
    refine bodyPost_ret (v := .agg (turnedC 14).cells) (results_cell_row rfl _ _ w.heap.size 75 (turnedC 14).cells (0, 0) _ rfl (heap_alloc_new w _) Tryz.underlying75 rfl Tryz.sizeChange) rfl ⟨rfl, (Below.refl _ _).alloc (Nat.le_refl _) _⟩
  have b14 : (v == 14) = false := by simp [h14]
  by_cases h15 : v = 15
  · have HV := hide (show turnedC v = ⟨1, 11, false, false⟩ by subst h15; rfl)
    subst h15
    go_enter Tryz.func38, Tryz.ntmps38
    go_wp2
    refine bodyPost_ret (v := .agg (turnedC 15).cells) (results_cell_row rfl _ _ w.heap.size 75 (turnedC 15).cells (0, 0) _ rfl (heap_alloc_new w _) Tryz.underlying75 rfl Tryz.sizeChange) rfl ⟨rfl, (Below.refl _ _).alloc (Nat.le_refl _) _⟩
  have b15 : (v == 15) = false := by simp [h15]
  by_cases h16 : v = 16
  · have HV := hide (show turnedC v = ⟨2, 12, true, false⟩ by subst h16; rfl)
    subst h16
    go_enter Tryz.func38, Tryz.ntmps38
    go_wp2
    refine bodyPost_ret (v := .agg (turnedC 16).cells) (results_cell_row rfl _ _ w.heap.size 75 (turnedC 16).cells (0, 0) _ rfl (heap_alloc_new w _) Tryz.underlying75 rfl Tryz.sizeChange) rfl ⟨rfl, (Below.refl _ _).alloc (Nat.le_refl _) _⟩
  have b16 : (v == 16) = false := by simp [h16]
  have HV := hide (show turnedC v = ⟨2, 13, false, true⟩ by unfold turnedC; rw [if_neg h12, if_neg h13, if_neg h14, if_neg h15, if_neg h16])
  clear h12 h13 h14 h15 h16
  go_enter Tryz.func38, Tryz.ntmps38
  go_wp2
  rw [HV.out]
  refine bodyPost_ret (v := .agg (Chg.cells ⟨2, 13, false, true⟩)) (results_cell_row rfl _ _ w.heap.size 75 (Chg.cells ⟨2, 13, false, true⟩) (0, 0) _ rfl (heap_alloc_new w _) Tryz.underlying75 rfl Tryz.sizeChange) rfl ⟨rfl, (Below.refl _ _).alloc (Nat.le_refl _) _⟩
/-
  A door is opened or closed: the contract.
-/
def isSoS : ByteArray := ⟨#[73, 116, 32, 105, 115, 32, 115, 111, 46]⟩
def doorT : ByteArray := ⟨#[100, 111, 111, 114]⟩
/-- A door's two sides are set. -/
def sideL (L : Ld) (r d : Nat) (x : Bool) : Ld :=
  if L.exit (L.exit r d - 1).toNat (oppN d) = (r : Int) + 1 then (L.setShut r d x).setShut (L.exit r d - 1).toNat (oppN d) x else L.setShut r d x
def doorL (L : Ld) (b d : Nat) (C : Chg) : Ld := if exitL L b d = 0 then L else if shutL L b d ≠ C.on then L else sideL L (L.room b).toNat d (!C.on)
def doorE (L : Ld) (b d : Nat) (C : Chg) : List Ev :=
  if exitL L b d = 0 then [tellE L b noThingS] else if shutL L b d ≠ C.on then [tellE L b isSoS]
  else [allE (doorL L b d C) { evN (doorL L b d C) C.event b with thing := doorT }]
theorem opp_lt {d : Nat} (hd : d < 6) : oppN d < 6 := by
  match d, hd with
  | 0, _ | 1, _ | 2, _ | 3, _ | 4, _ | 5, _ => decide
set_option maxRecDepth 100000 in
set_option maxHeartbeats 4000000 in
theorem rdoor_any {w0 : World} {L : Ld} {Es : List Ev} {w : World} (hS : Sn 47 [] w0 L Es w) (hf : Fine L) (b d : Nat) (hb : b < 6) (hd : d < 6) (C : Chg) (hlen : Es.length ≤ 800000) :
    Calls Tryz.prog 37 #[.pointer (some ⟨w0.heap.size, 0, none⟩), .int .i64 (b : Int), .int .i64 (d : Int), .agg C.cells] w fun e w' => e = .returned (.tuple #[]) ∧ Sn 47 [] w0 (doorL L b d C) (Es ++ doorE L b d C) w' ∧ Stp w0.heap.size 165 w w' := by
  obtain ⟨r, hr, er⟩ := hf.room b hb
  have eE : exitL L b d = L.exit r d := by unfold exitL; rw [er]; rfl
  have eS : shutL L b d = L.shut r d := by unfold shutL; rw [er]; rfl
  have eR : (L.room b).toNat = r := by rw [er]; rfl
  have hl := hS.lt
  have X0 := hide (hS.alloc (.cells C.cells 75))
  have T0 := hide (Stp.below (o := 165) (below_box w (.cells C.cells 75)) hS.lt)
  have G0 := heap_alloc_new w (.cells C.cells 75)
  have k1 : (w.alloc (.cells C.cells 75)).cell? ⟨w.heap.size, 1, none⟩ = some (.int .i64 C.event) := by rw [cell_of_row _ _ _ _ _ _ G0]; rfl
  have k2 : (w.alloc (.cells C.cells 75)).cell? ⟨w.heap.size, 2, none⟩ = some (.bool C.on) := by rw [cell_of_row _ _ _ _ _ _ G0]; rfl
  have c3 := X0.out.being b 3 hb (by omega)
  have cE := X0.out.room r (2 + d) hr (by omega)
  have cS := X0.out.room r (8 + d) hr (by omega)
  have fS := X0.out.soft (r * 14 + 8 + d)
  rw [show r * 14 + (2 + d) = r * 14 + 2 + d by omega] at cE
  rw [show r * 14 + (8 + d) = r * 14 + 8 + d by omega] at cS
  have e1 : ∀ (M : Ld) (r d : Nat), d < 6 → M.roomCell r (2 + d) = .int .i64 (M.exit r d) := fun M r d hd => by rw [Nat.add_comm]; simp [Ld.roomCell, hd]
  have e2 : ∀ (M : Ld) (r d : Nat), M.roomCell r (8 + d) = .bool (M.shut r d) := fun M r d => by rw [show 8 + d = (d + 6) + 2 by omega]; simp [Ld.roomCell]
  have E1 := hide e1
  have E2 := hide e2
  rw [e1 _ _ _ hd] at cE
  rw [e2] at cS
  simp only [Ld.beingCell] at c3
  rw [er] at c3
  have HF := hide hf
  have hbi : (b : Int) < 6 := by omega
  have hri : (r : Int) < 6 := by omega
  have hdi : (d : Int) < 6 := by omega
  have hne : w.heap.size ≠ w0.heap.size := by omega
  have hne2 : w0.heap.size ≠ w.heap.size := by omega
  clear hS hf er e2 e1 G0
  by_cases h0 : L.exit r d = 0
  · have HE := hide (show doorE L b d C = [tellE L b noThingS] by unfold doorE; rw [eE, if_pos h0])
    have HL := hide (show doorL L b d C = L by unfold doorL; rw [eE, if_pos h0])
    have hb0 : (L.exit r d == 0) = true := by simp [h0]
    clear h0 eE eS eR
    go_enter Tryz.func37, Tryz.ntmps37
    go_upto_region 1 with fail
    generalize w.alloc (.cells C.cells 75) = wa at *
    go_wp2_with fail
    refine (rtell_any X0.out b hb _ (by omega)).mono ?_
    rintro e w2 ⟨rfl, S2, T2⟩
    have A := hide S2
    have B := hide (T0.out.trans T2)
    clear S2 T2
    go_wp2
    go_end0
    exact ⟨rfl, by rw [HE.out, HL.out]; exact A.out, B.out⟩
  · have hb0 : (L.exit r d == 0) = false := by simp [h0]
    by_cases h1 : L.shut r d ≠ C.on
    · have HE := hide (show doorE L b d C = [tellE L b isSoS] by unfold doorE; rw [eE, if_neg h0, eS, if_pos h1])
      have HL := hide (show doorL L b d C = L by unfold doorL; rw [eE, if_neg h0, eS, if_pos h1])
      have hb1 : (!(L.shut r d == C.on)) = true := by simpa using h1
      clear h0 h1 eE eS eR
      go_enter Tryz.func37, Tryz.ntmps37
      go_upto_region 1 with fail
      generalize w.alloc (.cells C.cells 75) = wa at *
      go_wp2_with fail
      go_quiet (fail)
      go_wp2_with fail
      refine (rtell_any (X0.out.drewN _) b hb _ (by omega)).mono ?_
      rintro e w2 ⟨rfl, S2, T2⟩
      have A := hide S2
      have B := hide (T0.out.trans ((X0.out.stp (below_drewN (Below.refl _ _) _) 165).trans T2))
      clear S2 T2
      go_wp2
      go_end0
      exact ⟨rfl, by rw [HE.out, HL.out]; exact A.out, B.out⟩
    · have hb1 : (!(L.shut r d == C.on)) = false := by simpa using h1
      obtain ⟨t, ht, et⟩ : ∃ t : Nat, t < 6 ∧ L.exit r d = (t : Int) + 1 := by
        rcases HF.out.exit r d hr hd with h | h
        · exact absurd h h0
        · exact h
      have HL0 : doorL L b d C = sideL L r d (!C.on) := by unfold doorL; rw [eE, if_neg h0, eS, if_neg h1, eR]
      have HL := hide HL0
      have HE := hide (show doorE L b d C = [allE (sideL L r d (!C.on)) { evN (sideL L r d (!C.on)) C.event b with thing := doorT }] by unfold doorE; rw [eE, if_neg h0, eS, if_neg h1, HL0])
      have et2 : (L.exit r d - 1).toNat = t := by rw [et]; omega
      have HD0 : sideL L r d (!C.on) = if L.exit t (oppN d) = (r : Int) + 1 then (L.setShut r d (!C.on)).setShut t (oppN d) (!C.on) else L.setShut r d (!C.on) := by unfold sideL; rw [et2]
      have hod := opp_lt hd
      have hodi : (oppN d : Int) < 6 := by omega
      have hti : (t : Int) < 6 := by omega
      rw [et] at cE
      rw [et] at hb0
      have ET := hide et
      have hw : wrap64 ((t : Int) + 1 - 1) = (t : Int) := by rw [show (t : Int) + 1 - 1 = (t : Int) by omega]; simp only [wrap64]; omega
      clear h0 h1 eE eS eR HL0 et et2
      have HD := hide HD0
      clear HD0
      go_enter Tryz.func37, Tryz.ntmps37
      go_upto_region 1 with fail
      generalize w.alloc (.cells C.cells 75) = wa at *
      go_wp2_with fail
      go_quiet (fail)
      go_wp2_with fail
      go_region
      go_wp2_with fail
      have Y0 := hide (X0.out.drewN (nq + 1))
      have S2 : Hid (Sn 47 [] w0 (L.setShut r d (!C.on)) Es ((wa.drewN (nq + 1)).setCell ⟨w0.heap.size, r * 14 + 8 + d, none⟩ (.bool (!C.on)))) := Y0.out.set (by omega) (by rw [show r * 14 + 8 + d = r * 14 + (8 + d) by omega]; exact L.up_shut r d hr hd (!C.on))
      have T2 : Hid (Stp w0.heap.size 165 w ((wa.drewN (nq + 1)).setCell ⟨w0.heap.size, r * 14 + 8 + d, none⟩ (.bool (!C.on)))) := T0.out.trans ((X0.out.stp (below_drewN (Below.refl _ _) (nq + 1)) 165).trans (Stp.put (by omega)))
      refine (opposite_any d hd _).mono ?_
      rintro e w3 ⟨rfl, hw3⟩
      have hh : w3.heap[w.heap.size]? = wa.heap[w.heap.size]? := by rw [hw3, Below.heap_setCell _ _ _ _ (by simp; omega)]; rfl
      have q1 : w3.cell? ⟨w.heap.size, 1, none⟩ = some (.int .i64 C.event) := by rw [← k1]; simp only [World.cell?, hh]
      have q2 : w3.cell? ⟨w.heap.size, 2, none⟩ = some (.bool C.on) := by rw [← k2]; simp only [World.cell?, hh]
      rw [← hw3] at S2 T2
      have dE := S2.out.room r (2 + d) hr (by omega)
      have tE := S2.out.room t (2 + oppN d) ht (by omega)
      have tS := S2.out.room t (8 + oppN d) ht (by omega)
      have fT := S2.out.soft (t * 14 + 8 + oppN d)
      rw [show r * 14 + (2 + d) = r * 14 + 2 + d by omega, E1.out _ _ _ hd] at dE
      rw [show t * 14 + (2 + oppN d) = t * 14 + 2 + oppN d by omega, E1.out _ _ _ hod] at tE
      rw [show t * 14 + (8 + oppN d) = t * 14 + 8 + oppN d by omega, E2.out] at tS
      change w3.cell? _ = some (.int .i64 (L.exit r d)) at dE
      change w3.cell? _ = some (.int .i64 (L.exit t (oppN d))) at tE
      rw [ET.out] at dE
      clear hw3 hh k1 k2 c3 cE cS fS X0 T0 Y0 hb0 hb1 ET
      generalize hod2 : oppN d = od at *
      have HO := hide hod2
      clear hod2
      by_cases hx : L.exit t od = (r : Int) + 1
      · have HD2 := hide (show sideL L r d (!C.on) = (L.setShut r d (!C.on)).setShut t od (!C.on) by rw [HD.out, if_pos hx])
        have hxb : (L.exit t od == (r : Int) + 1) = true := by simp [hx]
        clear hx HD
        go_wp2_with fail
        go_quiet (fail)
        go_wp2_with fail
        go_region
        have S4 : Hid (Sn 47 [] w0 (sideL L r d (!C.on)) Es ((w3.drewN (nq + 1)).setCell ⟨w0.heap.size, t * 14 + 8 + od, none⟩ (.bool (!C.on)))) := by
          rw [HD2.out]
          exact (S2.out.drewN (nq + 1)).set (by omega) (by rw [show t * 14 + 8 + od = t * 14 + (8 + od) by omega]; exact (L.setShut r d (!C.on)).up_shut t od ht hod (!C.on))
        have T4 : Hid (Stp w0.heap.size 165 w ((w3.drewN (nq + 1)).setCell ⟨w0.heap.size, t * 14 + 8 + od, none⟩ (.bool (!C.on)))) := T2.out.trans ((S2.out.stp (below_drewN (Below.refl _ _) (nq + 1)) 165).trans (Stp.put (by omega)))
        clear HD2
        generalize sideL L r d (!C.on) = M at *
        go_wp2_with fail
        refine (revent_lit S4.out C.event b hb).mono ?_
        rintro e w5 ⟨rfl, hb5⟩
        have S5 := hide (S4.out.below hb5)
        have T5 := hide (T4.out.trans (S4.out.stp hb5 165))
        clear hb5 S4 T4 q1 q2 dE tE tS fT S2 T2
        go_wp2_with (first | (refine wl_new 62 (.tmp 12) (.tmp 70) rfl rfl _ _ rfl rfl rfl Tryz.sizeEvent rfl (by simp [Value.oneCell']) ?_) | (refine wl_event (.tmp 12) rfl rfl _ { evN M C.event b with thing := doorT } rfl (heap_alloc_new w5 _) ?_))
        refine (happens_any (S5.out.alloc _) { evN M C.event b with thing := doorT } (by omega)).mono ?_
        rintro e w6 ⟨rfl, S6h, T6h⟩
        have S6 := hide S6h
        have T6 := hide (T5.out.trans ((S5.out.stp (below_box w5 _) 165).trans T6h))
        clear S6h T6h S5 T5
        go_wp2
        go_end0
        exact ⟨rfl, by rw [HL.out, HE.out]; exact S6.out, T6.out⟩
      · have HD2 := hide (show sideL L r d (!C.on) = L.setShut r d (!C.on) by rw [HD.out, if_neg hx])
        have hxb : (L.exit t od == (r : Int) + 1) = false := by simp [hx]
        clear hx HD
        go_wp2_with fail
        go_quiet (fail)
        have S4 : Hid (Sn 47 [] w0 (sideL L r d (!C.on)) Es (w3.drewN nq)) := by
          rw [HD2.out]
          exact S2.out.drewN nq
        have T4 : Hid (Stp w0.heap.size 165 w (w3.drewN nq)) := T2.out.trans (S2.out.stp (below_drewN (Below.refl _ _) nq) 165)
        clear HD2
        generalize sideL L r d (!C.on) = M at *
        go_wp2_with fail
        refine (revent_lit S4.out C.event b hb).mono ?_
        rintro e w5 ⟨rfl, hb5⟩
        have S5 := hide (S4.out.below hb5)
        have T5 := hide (T4.out.trans (S4.out.stp hb5 165))
        clear hb5 S4 T4 q1 q2 dE tE tS fT S2 T2
        go_wp2_with (first | (refine wl_new 62 (.tmp 12) (.tmp 70) rfl rfl _ _ rfl rfl rfl Tryz.sizeEvent rfl (by simp [Value.oneCell']) ?_) | (refine wl_event (.tmp 12) rfl rfl _ { evN M C.event b with thing := doorT } rfl (heap_alloc_new w5 _) ?_))
        refine (happens_any (S5.out.alloc _) { evN M C.event b with thing := doorT } (by omega)).mono ?_
        rintro e w6 ⟨rfl, S6h, T6h⟩
        have S6 := hide S6h
        have T6 := hide (T5.out.trans ((S5.out.stp (below_box w5 _) 165).trans T6h))
        clear S6h T6h S5 T5
        go_wp2
        go_end0
        exact ⟨rfl, by rw [HL.out, HE.out]; exact S6.out, T6.out⟩
/-
  Things are parted with: the contract.
-/
def notHadS : ByteArray := ⟨#[89, 111, 117, 32, 104, 97, 118, 101, 32, 110, 111, 32, 115, 117, 99, 104, 32, 116, 104, 105, 110, 103, 46]⟩
def wornS : ByteArray := ⟨#[89, 111, 117, 32, 119, 101, 97, 114, 32, 105, 116, 46]⟩
def cannotS : ByteArray := ⟨#[84, 104, 97, 116, 32, 99, 97, 110, 110, 111, 116, 32, 98, 101, 46]⟩

/-- The whole order is read, wherever the walk stands. -/
theorem exec_order {a : Act} {op : Oper} {w : World} (x : Operand) (ho : op.op = .load 36 x) (b : Nat) (hx : a.eval x = .pointer (some ⟨b, 0, none⟩)) {O : Od} (hc : w.heap[b]? = some (.cells O.cells 36 (0, 0))) : (execOp a.eval op).run Tryz.prog w = .ok (.value (.agg O.cells)) w := by
  have hl : (Instr.loadAt 36 (.pointer (some ⟨b, 0, none⟩))).run Tryz.prog w = .ok (.agg O.cells) w := by
    simp only [Instr.loadAt, Instr.sureAddr, Sem.run_bind, Sem.run_pure, Result.andThen_ok]
    exact run_loadVar_row w b 36 36 O.cells (0, 0) _ hc Tryz.underlying36 rfl Tryz.sizeOrder
  unfold execOp
  simp only [ho, hx, Sem.run_bind, hl, Result.andThen_ok, Sem.run_pure]

/-- One thing is parted with. -/
def pstep (b : Nat) (wh loc : Int) (E : Ev) (s : Ld × List Ev) (i : Int) : Ld × List Ev :=
  if s.1.kind i.toNat = 2 ∧ s.1.on i.toNat = true then (s.1, s.2 ++ [tellE s.1 b wornS])
  else if wh = 2 ∧ i ∈ wayL s.1 loc then (s.1, s.2 ++ [tellE s.1 b cannotS])
  else (moveL s.1 i.toNat wh loc, s.2 ++ [allE (moveL s.1 i.toNat wh loc) { E with thing := s.1.tname i.toNat }])
def partS (L : Ld) (b : Nat) (wh loc : Int) (E : Ev) (q : List Int) : Ld × List Ev := q.foldl (pstep b wh loc E) (L, [])
theorem part_len (L : Ld) (b : Nat) (wh loc : Int) (E : Ev) (q : List Int) : (partS L b wh loc E q).2.length = q.length := by
  unfold partS
  have : ∀ (q : List Int) (s : Ld × List Ev), (q.foldl (pstep b wh loc E) s).2.length = s.2.length + q.length := by
    intro q
    induction q with
    | nil => intro s; simp
    | cons a q ih =>
      intro s
      rw [List.foldl_cons, ih]
      unfold pstep
      split
      · simp; omega
      · split <;> (simp; omega)
  rw [this]; simp
theorem part_next (L : Ld) (b : Nat) (wh loc : Int) (E : Ev) {q : List Int} {k : Nat} (hk : k < q.length) : partS L b wh loc E (q.take (k + 1)) = pstep b wh loc E (partS L b wh loc E (q.take k)) (q.getD k 0) := by
  unfold partS; rw [take_snoc hk, List.foldl_append]; rfl
def hadL (L : Ld) (b : Nat) (O : Od) : List Int := meantL L (handL L b) O.nth O.all O.name
def partL (L : Ld) (b : Nat) (O : Od) (wh loc : Int) (E : Ev) : Ld := (partS L b wh loc E (hadL L b O)).1
def partE (L : Ld) (b : Nat) (O : Od) (wh loc : Int) (E : Ev) : List Ev := sigE L b (hadL L b O) notHadS ++ (partS L b wh loc E (hadL L b O)).2
theorem had_lt {L : Ld} {b : Nat} {O : Od} {x : Int} (h : x ∈ hadL L b O) : ∃ i : Nat, x = (i : Int) ∧ i < 9 := hand_lt (meant_mem h)
theorem had_len (L : Ld) (b : Nat) (O : Od) : (hadL L b O).length ≤ 9 := by
  have h0 := hand_len L b
  have h1 := List.length_filter_le (fits L O.name) (handL L b)
  unfold hadL meantL nthL
  split
  · omega
  · split <;> simp

set_option maxRecDepth 100000 in
set_option maxHeartbeats 4000000 in
theorem rpart_any {w0 : World} {L : Ld} {Es : List Ev} {w : World} (hS : Sn 47 [] w0 L Es w) (b : Nat) (hb : b < 6) (O : Od) (hn0 : -9223372036854775808 ≤ O.nth) (hn1 : O.nth ≤ 9223372036854775807) (wh loc : Int) (E : Ev) (hlen : Es.length ≤ 900000) :
    Calls Tryz.prog 31 #[.pointer (some ⟨w0.heap.size, 0, none⟩), .int .i64 (b : Int), .agg O.cells, .int .i64 wh, .int .i64 loc, .agg E.cells] w fun e w' => e = .returned (.tuple #[]) ∧ Sn 47 [] w0 (partL L b O wh loc E) (Es ++ partE L b O wh loc E) w' ∧ Stp w0.heap.size 165 w w' := by
  have hl := hS.lt
  have B0 : Hid (Below w.heap.size w ((w.alloc (.cells O.cells 36)).alloc (.cells E.cells 62)).drew) := ((below_box w (.cells O.cells 36)).alloc (by simp) (.cells E.cells 62)).trans ⟨rfl, rfl, rfl, Nat.le_refl _, fun _ _ => rfl⟩
  have K0 := hide (hS.kept (k := w.heap.size + 1) B0.out (by omega) (by simp [World.drew]))
  have S0 := hide (hS.below B0.out)
  have T0 := hide (Stp.below (o := 165) B0.out hl)
  have C0 : Hid (Cev ((w.alloc (.cells O.cells 36)).alloc (.cells E.cells 62)).drew (w.heap.size + 1) E) := by
    have h := cev_new (w.alloc (.cells O.cells 36)) E
    have e : (w.alloc (.cells O.cells 36)).heap.size = w.heap.size + 1 := by simp
    rw [e] at h
    exact h
  have G0 : Hid (((w.alloc (.cells O.cells 36)).alloc (.cells E.cells 62)).drew.heap[w.heap.size]? = some (.cells O.cells 36 (0, 0))) := by
    show ((w.alloc (.cells O.cells 36)).alloc (.cells E.cells 62)).heap[w.heap.size]? = _
    rw [((Below.refl (w.alloc (.cells O.cells 36)).heap.size (w.alloc (.cells O.cells 36))).alloc (Nat.le_refl _) (.cells E.cells 62)).block _ (by simp)]
    exact heap_alloc_new w _
  have HZ : w.heap.size + 1 < ((w.alloc (.cells O.cells 36)).alloc (.cells E.cells 62)).drew.heap.size := by simp [World.drew]
  clear hS B0
  go_enter Tryz.func31, Tryz.ntmps31
  go_wp2_with fail
  refine wp_region_held (S := fun W => W.heap[w.heap.size]? = some (.cells O.cells 36 (0, 0))) (by kernel_rfl) ?_
  change wpAnyH _ _ _ _ _ _ _ _ ((w.alloc (.cells O.cells 36)).alloc (.cells E.cells 62)).drew
  generalize ((w.alloc (.cells O.cells 36)).alloc (.cells E.cells 62)).drew = W0 at K0 S0 T0 C0 G0 HZ ⊢
  refine tw (i := 0) (d := some 16) (fuel := 6) (v := ?_) rfl rfl ?_ G0.out ?_
  rotate_left
  · intro W hW; go_simp; try with_reducible rfl
  simp only [Act.put, sT, List.set]
  refine tw (i := 1) (d := some 17) (fuel := 5) (v := ?_) rfl rfl ?_ G0.out ?_
  rotate_left
  · intro W hW; go_simp; try with_reducible rfl
  simp only [Act.put, sT, List.set]
  refine tw (i := 2) (d := some 18) (fuel := 4) (v := ?_) rfl rfl ?_ G0.out ?_
  rotate_left
  · intro W hW; go_simp; try with_reducible rfl
  simp only [Act.put, sT, List.set]
  refine tk (i := 4) (d := some 20) (fuel := 3) (v := .agg O.cells) rfl rfl (Or.inl ⟨by rfl, fun W hW => exec_order (.tmp 8) rfl _ rfl hW⟩) G0.out ?_
  simp only [Act.put, sT, List.set]
  refine wpAnyH_all (fuel := 2) (rs := [3]) (by kernel_rfl) (by simp) ?_
  intro i hi
  obtain rfl : i = 3 := by simpa using hi
  clear hi
  refine call_at (d := some 19) rfl rfl (by rfl) 43 #[.pointer (some ⟨w0.heap.size, 0, none⟩), .int .i64 (b : Int)] (by kernel_rfl) ?_
  refine (rhand_any S0.out b).mono ?_
  rintro e w1 ⟨v, rfl, ho, hb1⟩
  have S1 := hide (S0.out.below hb1)
  have P1 := hide (S0.out.stp hb1 165)
  have N1 := hide (numk_own S0.out hb1 ho)
  have G1 := hide (show w1.heap[w.heap.size]? = some (.cells O.cells 36 (0, 0)) by rw [hb1.block _ (by omega)]; exact G0.out)
  have K1 := hide (P1.out.kept K0.out).1
  have C1 := hide (K0.out.cev P1.out C0.out)
  have T1 := hide (T0.out.trans P1.out)
  obtain ⟨av, cap, rfl⟩ := ho.shape
  clear ho hb1 P1 S0 T0 C0 G0 K0
  have hsl := hand_len L b
  refine ⟨_, rfl, G1.out, ?_⟩
  simp only [Act.put, sT, List.set]
  refine wpAnyH_all (fuel := 1) (rs := [5]) (by kernel_rfl) (by simp) ?_
  intro i hi
  obtain rfl : i = 5 := by simpa using hi
  clear hi
  refine call_at (d := some 21) rfl rfl (by rfl) 69 #[.pointer (some ⟨w0.heap.size, 0, none⟩), .slice av (handL L b).length cap, .agg O.cells] (by kernel_rfl) ?_
  refine (meant_any S1.out N1.out (fun x hx => hand_lt hx) (by omega) O hn0 hn1).mono ?_
  rintro e w2 ⟨v', rfl, hK, hb2⟩
  have S2 := hide (S1.out.below hb2)
  have P2 := hide (S1.out.stp hb2 165)
  have N2 := hide hK
  have G2 := hide (show w2.heap[w.heap.size]? = some (.cells O.cells 36 (0, 0)) by rw [hb2.block _ ((Array.getElem?_eq_some_iff.1 G1.out).1)]; exact G1.out)
  have K2 := hide (P2.out.kept K1.out).1
  have C2 := hide (K1.out.cev P2.out C1.out)
  have T2 := hide (T1.out.trans P2.out)
  obtain ⟨av2, cap2, rfl⟩ := hK.shape
  clear hK hb2 P2 S1 T1 C1 G1 K1 N1 hsl
  refine ⟨_, rfl, G2.out, ?_⟩
  simp only [Act.put, sT, List.set]
  refine tw (i := 6) (d := some 12) (fuel := 0) (v := ?_) rfl rfl ?_ G2.out ?_
  rotate_left
  · intro W hW; go_simp; try with_reducible rfl
  simp only [Act.put, sT, List.set]
  refine wpAnyH_done (by kernel_rfl) ?_ _
  have HM := hide (fun x (hx : x ∈ hadL L b O) => had_lt hx)
  have hml := had_len L b O
  have HL := hide (show partL L b O wh loc E = (partS L b wh loc E (hadL L b O)).1 from rfl)
  have HE := hide (show partE L b O wh loc E = sigE L b (hadL L b O) notHadS ++ (partS L b wh loc E (hadL L b O)).2 from rfl)
  change Hid (NumK _ _ _ (.slice av2 (hadL L b O).length cap2) (hadL L b O)) at N2
  rw [show meantL L (handL L b) O.nth O.all O.name = hadL L b O from rfl]
  clear G2
  generalize hadL L b O = q at *
  generalize hn : q.length = n at *
  have HNn := hide hn
  clear hn
  cases hz : decide (n = 0) with
  | true =>
    have hz0 : n = 0 := by simpa using hz
    subst hz0
    have hq0 : q = [] := List.eq_nil_of_length_eq_zero HNn.out
    have HE2 := hide (show partE L b O wh loc E = [tellE L b notHadS] by rw [HE.out, hq0]; rfl)
    have HL2 := hide (show partL L b O wh loc E = L by rw [HL.out, hq0]; rfl)
    clear hz hq0
    go_wp2_with fail
    refine (rtell_any S2.out b hb _ (by omega)).mono ?_
    rintro e w3 ⟨rfl, S3h, T3h⟩
    have S3 := hide S3h
    have T3 := hide (T2.out.trans T3h)
    clear S3h T3h S2 T2 N2
    go_wp2_with fail
    go_loopw [30] (fun c wr => c = .int .i64 0 ∧ wr = w3) (fun _ _ => 0)
    case atStart => exact ⟨rfl, rfl⟩
    case round =>
      obtain ⟨rfl, rfl⟩ := hrel
      go_wp2
      go_end0
      exact ⟨rfl, by rw [HL2.out, HE2.out]; exact S3.out, T3.out⟩
  | false =>
    have hz0 : n ≠ 0 := by simpa using hz
    have hzi : ((n : Int) == 0) = false := by simp; omega
    have hq0 : q ≠ [] := fun e => by have := HNn.out; rw [e] at this; simp at this; omega
    have HE2 := hide (show partE L b O wh loc E = (partS L b wh loc E q).2 by rw [HE.out]; unfold sigE; rw [if_neg hq0]; rfl)
    clear hz hq0
    go_wp2_with fail
    go_loopw [30] (fun c wr => ∃ k : Nat, k ≤ n ∧ c = .int .i64 k ∧ Sn 47 [] w0 (partS L b wh loc E (q.take k)).1 (Es ++ (partS L b wh loc E (q.take k)).2) wr ∧ Stp w0.heap.size 165 w wr ∧ NumK w0.heap.size 165 wr (.slice av2 n cap2) q ∧ Kept w0.heap.size 165 wr (w.heap.size + 1) ∧ Cev wr (w.heap.size + 1) E) (fun c _ => n - (intOf c).toNat)
    case atStart => exact ⟨0, by omega, rfl, by simpa [partS] using S2.out, T2.out, N2.out, K2.out, C2.out⟩
    case round =>
      obtain ⟨k, hle, rfl, Rh, Th, Nh, Kh, Ch⟩ := hrel
      have R := hide Rh
      have TT := hide Th
      have N := hide Nh
      have K := hide Kh
      have C := hide Ch
      clear Rh Th Nh Kh Ch S2 T2 N2 K2 C2
      by_cases hk : k < n
      · have hkq : k < q.length := by rw [HNn.out]; exact hk
        obtain ⟨bq, off, cap', e, hcell⟩ := N.out.cell hkq
        rw [HNn.out] at e
        injection e with e1 e2 e3
        subst e1 e3
        obtain ⟨i, ei, hi⟩ := HM.out _ (getD_mem hkq)
        have HT := hide (show partS L b wh loc E (q.take (k + 1)) = pstep b wh loc E (partS L b wh loc E (q.take k)) (i : Int) by rw [part_next L b wh loc E hkq, ei])
        rw [ei] at hcell
        have htl : (partS L b wh loc E (q.take k)).2.length ≤ 9 := by rw [part_len]; simp; omega
        have hii : (i : Int) < 9 := by omega
        clear ei
        generalize partS L b wh loc E (q.take k) = s at *
        have c1 := R.out.thing i 1 hi (by omega)
        have c4 := R.out.thing i 4 hi (by omega)
        simp only [Ld.thingCell] at c1 c4
        by_cases hA : s.1.kind i = 2 ∧ s.1.on i = true
        · have hk2 : (s.1.kind i == 2) = true := by simp [hA.1]
          have HV := hide (show pstep b wh loc E s (i : Int) = (s.1, s.2 ++ [tellE s.1 b wornS]) by unfold pstep; rw [if_pos (by simpa using hA)])
          rw [hA.2] at c4
          clear hA
          go_wp2_with fail
          refine (rtell_any R.out b hb _ (by simp only [List.length_append]; omega)).mono ?_
          rintro e w4 ⟨rfl, S4h, T4h⟩
          have S4 := hide S4h
          have T4 := hide (TT.out.trans T4h)
          have N4 := hide (N.out.step T4h)
          have K4 := hide (T4h.kept K.out).1
          have C4 := hide (K.out.cev T4h C.out)
          clear S4h T4h R TT N K C
          go_wp2
          go_roundw
          case rel => exact ⟨k + 1, by omega, by go_num, by rw [HT.out, HV.out]; have h := S4.out; rw [List.append_assoc] at h; exact h, T4.out, N4.out, K4.out, C4.out⟩
          case measure => simp [intOf]; omega
        · have hA2 : (s.1.kind i == 2) = false ∨ ((s.1.kind i == 2) = true ∧ s.1.on i = false) := by
            by_cases h : s.1.kind i = 2
            · exact .inr ⟨by simp [h], by cases h4 : s.1.on i with
                | false => rfl
                | true => exact absurd ⟨h, h4⟩ hA⟩
            · exact .inl (by simp [h])
          by_cases hw : wh = 2
          · subst hw
            by_cases hI : (i : Int) ∈ wayL s.1 loc
            · have HV := hide (show pstep b 2 loc E s (i : Int) = (s.1, s.2 ++ [tellE s.1 b cannotS]) by unfold pstep; rw [if_neg (by simpa using hA), if_pos ⟨rfl, hI⟩])
              have HD := hide (decide_eq_true hI)
              clear hA hI
              rcases hA2 with hk2 | ⟨hk2, h4⟩
              all_goals
                (try rw [h4] at c4)
                go_wp2_with (refine wl_scene (.tmp 67) rfl rfl rfl R.out ?_)
                refine (inside_any s.1 loc (i : Int) _).mono ?_
                rintro e w3 ⟨rfl, hb3⟩
                rw [HD.out]
                have P3 := hide (R.out.stp hb3 165)
                have R3 := hide (R.out.below hb3)
                clear hb3
                go_wp2_with fail
                refine (rtell_any R3.out b hb _ (by simp only [List.length_append]; omega)).mono ?_
                rintro e w4 ⟨rfl, S4h, T4h⟩
                have S4 := hide S4h
                have X4 := P3.out.trans T4h
                have T4 := hide (TT.out.trans X4)
                have N4 := hide (N.out.step X4)
                have K4 := hide (X4.kept K.out).1
                have C4 := hide (K.out.cev X4 C.out)
                clear S4h T4h X4 P3 R3 R TT N K C
                go_wp2
                go_roundw
                case rel => exact ⟨k + 1, by omega, by go_num, by rw [HT.out, HV.out]; have h := S4.out; rw [List.append_assoc] at h; exact h, T4.out, N4.out, K4.out, C4.out⟩
                case measure => simp [intOf]; omega
            · have HV := hide (show pstep b 2 loc E s (i : Int) = (moveL s.1 i 2 loc, s.2 ++ [allE (moveL s.1 i 2 loc) { E with thing := s.1.tname i }]) by unfold pstep; rw [if_neg (by simpa using hA), if_neg (by simpa using hI)]; rfl)
              have HD := hide (decide_eq_false hI)
              clear hA hI
              rcases hA2 with hk2 | ⟨hk2, h4⟩
              all_goals
                (try rw [h4] at c4)
                go_wp2_with (refine wl_scene (.tmp 67) rfl rfl rfl R.out ?_)
                refine (inside_any s.1 loc (i : Int) _).mono ?_
                rintro e w3 ⟨rfl, hb3⟩
                rw [HD.out]
                have P3 := hide (R.out.stp hb3 165)
                have R3 := hide (R.out.below hb3)
                have C3 := hide (K.out.cev P3.out C.out)
                clear hb3
                go_wp2_with (refine wl_event (.tmp 11) rfl rfl _ E rfl C3.out ?_)
                refine (rmove_any R3.out i hi 2 loc E (by simp only [List.length_append]; omega)).mono ?_
                rintro e w4 ⟨rfl, S4h, T4h⟩
                have S4 := hide S4h
                have X4 := P3.out.trans T4h
                have T4 := hide (TT.out.trans X4)
                have N4 := hide (N.out.step X4)
                have K4 := hide (X4.kept K.out).1
                have C4 := hide (K.out.cev X4 C.out)
                clear S4h T4h X4 P3 R3 R TT N K C C3
                go_wp2
                go_roundw
                case rel => exact ⟨k + 1, by omega, by go_num, by rw [HT.out, HV.out]; have h := S4.out; rw [List.append_assoc] at h; exact h, T4.out, N4.out, K4.out, C4.out⟩
                case measure => simp [intOf]; omega
          · have hwb : (wh == 2) = false := by simp [hw]
            have HV := hide (show pstep b wh loc E s (i : Int) = (moveL s.1 i wh loc, s.2 ++ [allE (moveL s.1 i wh loc) { E with thing := s.1.tname i }]) by unfold pstep; rw [if_neg (by simpa using hA), if_neg (by simp [hw])]; rfl)
            clear hA
            rcases hA2 with hk2 | ⟨hk2, h4⟩
            all_goals
              (try rw [h4] at c4)
              go_wp2_with (refine wl_event (.tmp 11) rfl rfl _ E rfl C.out ?_)
              refine (rmove_any R.out i hi wh loc E (by simp only [List.length_append]; omega)).mono ?_
              rintro e w4 ⟨rfl, S4h, T4h⟩
              have S4 := hide S4h
              have T4 := hide (TT.out.trans T4h)
              have N4 := hide (N.out.step T4h)
              have K4 := hide (T4h.kept K.out).1
              have C4 := hide (K.out.cev T4h C.out)
              clear S4h T4h R TT N K C
              go_wp2
              go_roundw
              case rel => exact ⟨k + 1, by omega, by go_num, by rw [HT.out, HV.out]; have h := S4.out; rw [List.append_assoc] at h; exact h, T4.out, N4.out, K4.out, C4.out⟩
              case measure => simp [intOf]; omega
      · have hkn : k = n := by omega
        subst hkn
        have hall : q.take k = q := by rw [← HNn.out]; exact List.take_length
        rw [hall] at R
        clear hall
        go_wp2
        go_end0
        exact ⟨rfl, by rw [HL.out, HE2.out]; exact R.out, TT.out⟩
/-
  Things are put into a box, and given to somebody: contracts.
-/
def stowE (L : Ld) (b i : Nat) : Ev := { evN L 5 b with text := L.tname i }
def putL (L : Ld) (b : Nat) (O : Od) : Ld := match (boxL L b O.second).1 with
  | none => L
  | some i => partL L b O 2 (i : Int) (stowE L b i)
def putE (L : Ld) (b : Nat) (O : Od) : List Ev := match (boxL L b O.second).1 with
  | none => [tellE L b (boxL L b O.second).2]
  | some i => partE L b O 2 (i : Int) (stowE L b i)
def giveL (L : Ld) (b : Nat) (O : Od) : Ld := match whoL L b O.second with
  | none => L
  | some c => partL L b O 1 (c : Int) (evW L 6 b c)
def giveE (L : Ld) (b : Nat) (O : Od) : List Ev := match whoL L b O.second with
  | none => [tellE L b nobodyS]
  | some c => partE L b O 1 (c : Int) (evW L 6 b c)

set_option maxRecDepth 100000 in
set_option maxHeartbeats 2000000 in
theorem rput_any {w0 : World} {L : Ld} {Es : List Ev} {w : World} (hS : Sn 47 [] w0 L Es w) (b : Nat) (hb : b < 6) (O : Od) (hs : O.second.size ≤ 140737488355328) (hn0 : -9223372036854775808 ≤ O.nth) (hn1 : O.nth ≤ 9223372036854775807) (hlen : Es.length ≤ 900000) :
    Calls Tryz.prog 33 #[.pointer (some ⟨w0.heap.size, 0, none⟩), .int .i64 (b : Int), .agg O.cells] w fun e w' => e = .returned (.tuple #[]) ∧ Sn 47 [] w0 (putL L b O) (Es ++ putE L b O) w' ∧ Stp w0.heap.size 165 w w' := by
  have hl := hS.lt
  have X0 := hide (hS.alloc (.cells O.cells 36))
  have T0 := hide (Stp.below (o := 165) (below_box w (.cells O.cells 36)) hS.lt)
  have K0 := hide (hS.kept (below_box w (.cells O.cells 36)) (Nat.le_refl _) (by simp))
  have G0 := heap_alloc_new w (.cells O.cells 36)
  have o4 : (w.alloc (.cells O.cells 36)).cell? ⟨w.heap.size, 4, none⟩ = some (.string O.second) := by rw [cell_of_row _ _ _ _ _ _ G0]; rfl
  have HG := hide G0
  clear hS G0
  go_enter Tryz.func33, Tryz.ntmps33
  go_wp2_with fail
  generalize w.alloc (.cells O.cells 36) = wa at *
  refine (rbox_any X0.out b hb O.second hs (by omega)).mono ?_
  rintro e w1 h
  clear o4
  rcases h with ⟨i, hi, rfl, S1h, T1h⟩ | ⟨hi, rfl, S1h, T1h⟩
  · have HL := hide (show putL L b O = partL L b O 2 (i : Int) (stowE L b i) by unfold putL; rw [hi])
    have HE := hide (show putE L b O = partE L b O 2 (i : Int) (stowE L b i) by unfold putE; rw [hi])
    obtain ⟨h9, -, -, -⟩ := box_lt hi
    have hii : (i : Int) < 9 := by omega
    have S1 := hide S1h
    have K1 := hide (T1h.kept K0.out).1
    have G1 := hide ((T1h.kept K0.out).2.trans HG.out)
    have T1 := hide (T0.out.trans T1h)
    clear S1h T1h hi X0 T0 K0 HG
    go_wp2_with fail
    refine (revent_lit S1.out 5 b hb).mono ?_
    rintro e w2 ⟨rfl, hb2⟩
    have P2 := hide (S1.out.stp hb2 165)
    have S2 := hide (S1.out.below hb2)
    have B2 := hide hb2
    have hl2 := S2.out.lt
    have c0 := S2.out.thing i 0 h9 (by omega)
    simp only [Nat.add_zero, Ld.thingCell] at c0
    have hkk : w.heap.size < w2.heap.size := by
      have h1 := (Array.getElem?_eq_some_iff.1 G1.out).1
      have h2 := hb2.size
      omega
    clear hb2
    have hbb := below_box w2 (.cells (stowE L b i).cells 62)
    have S3 := hide (S2.out.below hbb)
    have P3 := hide (P2.out.trans (S2.out.stp hbb 165))
    have G3 : Hid ((w2.alloc (.cells (stowE L b i).cells 62)).heap[w.heap.size]? = some (.cells O.cells 36 (0, 0))) := (P3.out.kept K1.out).2.trans G1.out
    have C3 : Hid (Cev (w2.alloc (.cells (stowE L b i).cells 62)) w2.heap.size (stowE L b i)) := cev_new w2 (stowE L b i)
    have T3 := hide (T1.out.trans P3.out)
    clear hbb
    go_wp2_with (first | (refine wl_new 62 (.tmp 8) (.tmp 20) rfl rfl _ _ rfl rfl rfl Tryz.sizeEvent rfl (by simp [Value.oneCell']) ?_) | (refine wl_wanted rfl (wp_load_row 36 (.tmp 5) rfl w.heap.size rfl 36 O.cells (0, 0) _ G3.out Tryz.underlying36 rfl Tryz.sizeOrder ?_)) | (refine wl_event (.tmp 8) rfl rfl _ (stowE L b i) rfl C3.out ?_))
    refine (rpart_any S3.out b hb O hn0 hn1 2 (i : Int) (stowE L b i) hlen).mono ?_
    rintro e w4 ⟨rfl, S4h, T4h⟩
    have S4 := hide S4h
    have T4 := hide (T3.out.trans T4h)
    clear S4h T4h S3 T3 P3 G3 C3
    go_wp2
    go_end0
    exact ⟨rfl, by rw [HL.out, HE.out]; exact S4.out, T4.out⟩
  · have HL := hide (show putL L b O = L by unfold putL; rw [hi])
    have HE := hide (show putE L b O = [tellE L b (boxL L b O.second).2] by unfold putE; rw [hi])
    have S1 := hide S1h
    have T1 := hide (T0.out.trans T1h)
    clear S1h T1h hi
    go_wp2
    go_end0
    exact ⟨rfl, by rw [HL.out, HE.out]; exact S1.out, T1.out⟩

set_option maxRecDepth 100000 in
set_option maxHeartbeats 2000000 in
theorem rgive_any {w0 : World} {L : Ld} {Es : List Ev} {w : World} (hS : Sn 47 [] w0 L Es w) (b : Nat) (hb : b < 6) (O : Od) (hs : O.second.size ≤ 140737488355328) (hn0 : -9223372036854775808 ≤ O.nth) (hn1 : O.nth ≤ 9223372036854775807) (hlen : Es.length ≤ 900000) :
    Calls Tryz.prog 34 #[.pointer (some ⟨w0.heap.size, 0, none⟩), .int .i64 (b : Int), .agg O.cells] w fun e w' => e = .returned (.tuple #[]) ∧ Sn 47 [] w0 (giveL L b O) (Es ++ giveE L b O) w' ∧ Stp w0.heap.size 165 w w' := by
  have hl := hS.lt
  have X0 := hide (hS.alloc (.cells O.cells 36))
  have T0 := hide (Stp.below (o := 165) (below_box w (.cells O.cells 36)) hS.lt)
  have K0 := hide (hS.kept (below_box w (.cells O.cells 36)) (Nat.le_refl _) (by simp))
  have G0 := heap_alloc_new w (.cells O.cells 36)
  have o4 : (w.alloc (.cells O.cells 36)).cell? ⟨w.heap.size, 4, none⟩ = some (.string O.second) := by rw [cell_of_row _ _ _ _ _ _ G0]; rfl
  have HG := hide G0
  clear hS G0
  go_enter Tryz.func34, Tryz.ntmps34
  go_wp2_with fail
  generalize w.alloc (.cells O.cells 36) = wa at *
  refine (somebody_any X0.out b hb O.second hs (by omega)).mono ?_
  rintro e w1 h
  clear o4
  rcases h with ⟨c, hc, rfl, S1h, T1h⟩ | ⟨hc, rfl, S1h, T1h⟩
  · have HL := hide (show giveL L b O = partL L b O 1 (c : Int) (evW L 6 b c) by unfold giveL; rw [hc])
    have HE := hide (show giveE L b O = partE L b O 1 (c : Int) (evW L 6 b c) by unfold giveE; rw [hc])
    obtain ⟨h6, -⟩ := who_sees hc
    have S1 := hide S1h.drew
    have K1 : Hid (Kept w0.heap.size 165 w1.drew w.heap.size) := ((T1h.trans (S1h.stp (below_drewN (Below.refl _ _) 1) 165)).kept K0.out).1
    have G1 : Hid (w1.drew.heap[w.heap.size]? = some (.cells O.cells 36 (0, 0))) := ((T1h.trans (S1h.stp (below_drewN (Below.refl _ _) 1) 165)).kept K0.out).2.trans HG.out
    have T1 : Hid (Stp w0.heap.size 165 w w1.drew) := T0.out.trans (T1h.trans (S1h.stp (below_drewN (Below.refl _ _) 1) 165))
    clear S1h T1h hc X0 T0 K0 HG
    go_wp2_with fail
    refine wp_region_held (S := fun W => W.heap[w.heap.size]? = some (.cells O.cells 36 (0, 0))) (by kernel_rfl) ?_
    change wpAnyH _ _ _ _ _ _ _ _ w1.drew
    generalize w1.drew = W0 at S1 K1 G1 T1 ⊢
    refine tw (i := 0) (d := some 17) (fuel := 8) (v := ?_) rfl rfl ?_ G1.out ?_
    rotate_left
    · intro W hW; go_simp; try with_reducible rfl
    simp only [Act.put, sT, List.set]
    refine tw (i := 1) (d := some 18) (fuel := 7) (v := ?_) rfl rfl ?_ G1.out ?_
    rotate_left
    · intro W hW; go_simp; try with_reducible rfl
    simp only [Act.put, sT, List.set]
    refine tw (i := 3) (d := some 20) (fuel := 6) (v := ?_) rfl rfl ?_ G1.out ?_
    rotate_left
    · intro W hW; go_simp; try with_reducible rfl
    simp only [Act.put, sT, List.set]
    refine tw (i := 4) (d := some 21) (fuel := 5) (v := ?_) rfl rfl ?_ G1.out ?_
    rotate_left
    · intro W hW; go_simp; try with_reducible rfl
    simp only [Act.put, sT, List.set]
    refine tw (i := 5) (d := some 22) (fuel := 4) (v := ?_) rfl rfl ?_ G1.out ?_
    rotate_left
    · intro W hW; go_simp; try with_reducible rfl
    simp only [Act.put, sT, List.set]
    refine tw (i := 6) (d := some 23) (fuel := 3) (v := ?_) rfl rfl ?_ G1.out ?_
    rotate_left
    · intro W hW; go_simp; try with_reducible rfl
    simp only [Act.put, sT, List.set]
    refine tk (i := 2) (d := some 19) (fuel := 2) (v := .agg O.cells) rfl rfl (Or.inl ⟨by rfl, fun W hW => exec_order (.tmp 5) rfl _ rfl hW⟩) G1.out ?_
    simp only [Act.put, sT, List.set]
    refine wpAnyH_all (fuel := 1) (rs := [7]) (by kernel_rfl) (by simp) ?_
    intro i hi
    obtain rfl : i = 7 := by simpa using hi
    clear hi
    refine call_at (d := some 24) rfl rfl (by rfl) 73 #[.pointer (some ⟨w0.heap.size, 0, none⟩), .int .i64 6, .int .i64 (b : Int), .int .i64 (c : Int)] (by kernel_rfl) ?_
    refine (rwith_any S1.out 6 b c hb h6).mono ?_
    rintro e w2 ⟨rfl, hb2⟩
    have S2 := hide (S1.out.below hb2)
    have T2 := hide (T1.out.trans (S1.out.stp hb2 165))
    have G2 := hide (((S1.out.stp hb2 165).kept K1.out).2.trans G1.out)
    have K2 := hide ((S1.out.stp hb2 165).kept K1.out).1
    clear hb2 S1 T1 K1 G1
    refine ⟨_, rfl, G2.out, ?_⟩
    simp only [Act.put, sT, List.set]
    refine wpAnyH_all (fuel := 0) (rs := [8]) (by kernel_rfl) (by simp) ?_
    intro i hi
    obtain rfl : i = 8 := by simpa using hi
    clear hi
    refine call_at (d := some 25) rfl rfl (by rfl) 31 #[.pointer (some ⟨w0.heap.size, 0, none⟩), .int .i64 (b : Int), .agg O.cells, .int .i64 1, .int .i64 (c : Int), .agg (evW L 6 b c).cells] (by kernel_rfl) ?_
    refine (rpart_any S2.out b hb O hn0 hn1 1 (c : Int) (evW L 6 b c) hlen).mono ?_
    rintro e w4 ⟨rfl, S4h, T4h⟩
    have S4 := hide S4h
    have T4 := hide (T2.out.trans T4h)
    have G4 := hide ((T4h.kept K2.out).2.trans G2.out)
    clear S4h T4h S2 T2 G2
    refine ⟨_, rfl, G4.out, ?_⟩
    simp only [Act.put, sT, List.set]
    refine wpAnyH_done (by kernel_rfl) ?_ _
    go_wp2
    go_end0
    exact ⟨rfl, by rw [HL.out, HE.out]; exact S4.out, T4.out⟩
  · have HL := hide (show giveL L b O = L by unfold giveL; rw [hc])
    have HE := hide (show giveE L b O = [tellE L b nobodyS] by unfold giveE; rw [hc])
    have S1 := hide S1h
    have T1 := hide (T0.out.trans T1h)
    clear S1h T1h hc
    go_wp2
    go_end0
    exact ⟨rfl, by rw [HL.out, HE.out]; exact S1.out, T1.out⟩
end Go.Proofs.YtaifjndkgfffpaaGreatDoor
