/-
  A thing is turned on or off: the contract.
-/
import Derived.Test.YtaifjndkgfffpaaGreatDoorMgJ
import Derived.Test.YtaifjndkgfffpaaGreatDoorMgI
import Derived.Test.YtaifjndkgfffpaaGreatDoorMgG
namespace Go.Proofs.YtaifjndkgfffpaaGreatDoor
open Go.RowKit
set_option linter.unusedVariables false

/-- What is looked through for what is to be turned on or off. -/
def turnQ (L : Ld) (b : Nat) (C : Chg) : List Int := if C.kind = 3 then reachL L b else handL L b
def turnM (L : Ld) (b : Nat) (O : Od) (C : Chg) : List Int := meantL L (turnQ L b C) (max O.nth 1) false O.name
/-- Which thing it is, if it is of that kind. -/
def pickT (L : Ld) (k : Int) (q : List Int) : Option Nat := match q with
  | [] => none
  | i :: _ => if L.kind i.toNat = k then some i.toNat else none
def turnW (L : Ld) (b : Nat) (O : Od) (C : Chg) : Option Nat := pickT L C.kind (turnM L b O C)
def turnL (L : Ld) (b : Nat) (O : Od) (C : Chg) : Ld := match turnW L b O C with
  | none => L
  | some i => if L.on i = C.on then L else L.setOn i C.on
def turnEv (L : Ld) (b i : Nat) (C : Chg) : Ev := { evN L C.event b with thing := L.tname i }
def turnE (L : Ld) (b : Nat) (O : Od) (C : Chg) : List Ev := match turnW L b O C with
  | none => [tellE L b noThingS]
  | some i => if L.on i = C.on then [tellE L b isSoS] else [allE (if C.behind = true then L.setOn i C.on else L) (turnEv L b i C)]
theorem turnQ_lt {L : Ld} {b : Nat} {C : Chg} {x : Int} (h : x ∈ turnQ L b C) : ∃ i : Nat, x = (i : Int) ∧ i < 9 := by
  unfold turnQ at h
  split at h
  · exact reach_lt h
  · exact hand_lt h
theorem turnQ_len (L : Ld) (b : Nat) (C : Chg) : (turnQ L b C).length ≤ 18 := by
  unfold turnQ
  split
  · exact reach_len L b
  · have := hand_len L b; omega
/-- What lies in memory where the order is set right. -/
structure TuRel (w0 : World) (L : Ld) (Es : List Ev) (O : Od) (C : Chg) (w wr : World) : Prop where
  sn : Sn 47 [] w0 L Es wr
  st : Stp w0.heap.size 165 w wr
  ord : wr.heap[w.heap.size]? = some (.cells O.cells 36 (0, 0))
  chg : wr.heap[w.heap.size + 1]? = some (.cells C.cells 75 (0, 0))
  k0 : Kept w0.heap.size 165 wr w.heap.size
  k1 : Kept w0.heap.size 165 wr (w.heap.size + 1)
section
variable {w0 w wr wr' : World} {L : Ld} {Es : List Ev} {O : Od} {C : Chg}
theorem TuRel.below (h : TuRel w0 L Es O C w wr) (hb : Below wr.heap.size wr wr') : TuRel w0 L Es O C w wr' :=
  ⟨h.sn.below hb, h.st.trans (h.sn.stp hb 165), by rw [hb.block _ h.k0.lt]; exact h.ord, by rw [hb.block _ h.k1.lt]; exact h.chg, ((h.sn.stp hb 165).kept h.k0).1, ((h.sn.stp hb 165).kept h.k1).1⟩
theorem TuRel.drewN (h : TuRel w0 L Es O C w wr) (n : Nat) : TuRel w0 L Es O C w (wr.drewN n) := h.below (below_drewN (Below.refl _ _) n)
theorem TuRel.cells (h : TuRel w0 L Es O C w wr) : wr.cell? ⟨w.heap.size + 1, 0, none⟩ = some (.int .i64 C.kind) ∧ wr.cell? ⟨w.heap.size + 1, 1, none⟩ = some (.int .i64 C.event) ∧ wr.cell? ⟨w.heap.size + 1, 2, none⟩ = some (.bool C.on) ∧ wr.cell? ⟨w.heap.size + 1, 3, none⟩ = some (.bool C.behind) :=
  ⟨by rw [cell_of_row _ _ _ _ _ _ h.chg]; rfl, by rw [cell_of_row _ _ _ _ _ _ h.chg]; rfl, by rw [cell_of_row _ _ _ _ _ _ h.chg]; rfl, by rw [cell_of_row _ _ _ _ _ _ h.chg]; rfl⟩
theorem tu_start (hS : Sn 47 [] w0 L Es w) (O : Od) (C : Chg) (m : Int) :
    TuRel w0 L Es { O with nth := m, all := false } C w ((w.alloc (.cells ((O.cells.setIfInBounds 1 (.int .i64 m)).setIfInBounds 2 (.bool false)) 36)).alloc (.cells C.cells 75)) := by
  have hb : Below w.heap.size w ((w.alloc (.cells ((O.cells.setIfInBounds 1 (.int .i64 m)).setIfInBounds 2 (.bool false)) 36)).alloc (.cells C.cells 75)) := (below_box w _).alloc (by simp) _
  have hsz : ((w.alloc (.cells ((O.cells.setIfInBounds 1 (.int .i64 m)).setIfInBounds 2 (.bool false)) 36)).alloc (.cells C.cells 75)).heap.size = w.heap.size + 2 := by simp
  refine ⟨hS.below hb, hS.stp hb 165, ?_, ?_, hS.kept hb (by omega) (by omega), hS.kept hb (by omega) (by omega)⟩
  · rw [Below.heap_alloc _ _ _ (by simp)]; exact heap_alloc_new w _
  · have := heap_alloc_new (w.alloc (.cells ((O.cells.setIfInBounds 1 (.int .i64 m)).setIfInBounds 2 (.bool false)) 36)) (.cells C.cells 75)
    rw [World.size_alloc] at this; exact this
end

set_option maxRecDepth 100000 in
set_option maxHeartbeats 4000000 in
theorem rturn_any {w0 : World} {L : Ld} {Es : List Ev} {w : World} (hS : Sn 47 [] w0 L Es w) (b : Nat) (hb : b < 6) (O : Od) (hn0 : -9223372036854775808 ≤ O.nth) (hn1 : O.nth ≤ 9223372036854775807) (C : Chg) (hlen : Es.length ≤ 900000) :
    Calls Tryz.prog 39 #[.pointer (some ⟨w0.heap.size, 0, none⟩), .int .i64 (b : Int), .agg O.cells, .agg C.cells] w fun e w' => e = .returned (.tuple #[]) ∧ Sn 47 [] w0 (turnL L b O C) (Es ++ turnE L b O C) w' ∧ Stp w0.heap.size 165 w w' := by
  have hl := hS.lt
  obtain ⟨m, hmx, HM, hm0, hm1⟩ : ∃ m : Int, (∀ (w : World) ts t, (Builtin.max_ ts t #[.int .i64 O.nth, .int .i64 1]).run Tryz.prog w = .ok (.int .i64 m) w) ∧ Hid (m = max O.nth 1) ∧ -9223372036854775808 ≤ m ∧ m ≤ 9223372036854775807 :=
    ⟨max O.nth 1, fun w ts t => by rw [run_max_int2]; congr 2; split <;> omega, hide rfl, by omega, by omega⟩
  have R0 := hide (tu_start hS O C m)
  have g0 : ((w.alloc (.cells O.cells 36)).alloc (.cells C.cells 75)).heap[w.heap.size]? = some (.cells O.cells 36 (0, 0)) := by
    rw [Below.heap_alloc _ _ _ (by simp)]; exact heap_alloc_new w _
  have o1 : ((w.alloc (.cells O.cells 36)).alloc (.cells C.cells 75)).cell? ⟨w.heap.size, 1, none⟩ = some (.int .i64 O.nth) := by rw [cell_of_row _ _ _ _ _ _ g0]; rfl
  have o2 : ((w.alloc (.cells O.cells 36)).alloc (.cells C.cells 75)).cell? ⟨w.heap.size, 2, none⟩ = some (.bool O.all) := by rw [cell_of_row _ _ _ _ _ _ g0]; rfl
  have f1 : ((w.alloc (.cells O.cells 36)).alloc (.cells C.cells 75)).frozen? ⟨w.heap.size, 1, none⟩ = false := by simp only [World.frozen?, g0]; simp
  have f2 : ((w.alloc (.cells O.cells 36)).alloc (.cells C.cells 75)).frozen? ⟨w.heap.size, 2, none⟩ = false := by simp only [World.frozen?, g0]; simp
  clear hS g0
  go_enter Tryz.func39, Tryz.ntmps39
  go_upto_region 2 with fail
  generalize ((w.alloc (.cells ((O.cells.setIfInBounds 1 (.int .i64 m)).setIfInBounds 2 (.bool false)) 36)).alloc (.cells C.cells 75)) = wa at *
  clear o1 o2 f1 f2 hmx
  go_wp2_with fail
  refine (rhand_any R0.out.sn b).mono ?_
  rintro e w1 ⟨v, rfl, ho, hb1⟩
  have R1 := hide (R0.out.below hb1)
  have N1 := hide (numk_own R0.out.sn hb1 ho)
  obtain ⟨av, cap, rfl⟩ := ho.shape
  obtain ⟨c0, -, -, -⟩ := R1.out.cells
  clear ho hb1 R0
  go_upto_if 22 with fail
  go_cut [8] (fun v wc => (∃ av cap, v = .slice av (turnQ L b C).length cap) ∧ TuRel w0 L Es { O with nth := m, all := false } C w wc ∧ NumK w0.heap.size 165 wc v (turnQ L b C))
  case first =>
    by_cases h3 : C.kind = 3
    · have kb : (C.kind == 3) = true := by simp [h3]
      have HQ := hide (show turnQ L b C = reachL L b by unfold turnQ; rw [if_pos h3])
      clear h3
      go_wp2_with fail
      refine (reach_any R1.out.sn b hb).mono ?_
      rintro e w2 ⟨v, rfl, ho, hb2⟩
      have R2 := hide (R1.out.below hb2)
      have N2 := hide (numk_own R1.out.sn hb2 ho)
      obtain ⟨av2, cap2, rfl⟩ := ho.shape
      clear ho hb2 R1 c0
      go_wp2
      go_meet
      rw [HQ.out]
      exact ⟨⟨_, _, rfl⟩, R2.out, N2.out⟩
    · have kb : (C.kind == 3) = false := by simp [h3]
      have HQ := hide (show turnQ L b C = handL L b by unfold turnQ; rw [if_neg h3])
      clear h3
      go_wp2
      go_meet
      rw [HQ.out]
      exact ⟨⟨_, _, rfl⟩, R1.out, N1.out⟩
  case rest =>
    obtain ⟨⟨av2, cap2, rfl⟩, R2h, N2h⟩ := hcut
    have R2 := hide R2h
    have N2 := hide N2h
    have hq18 := turnQ_len L b C
    clear R2h N2h R1 N1 c0
    go_wp2_with (refine wl_wanted rfl (wp_load_row 36 (.tmp 6) rfl w.heap.size rfl 36 (Od.cells { O with nth := m, all := false }) (0, 0) _ R2.out.ord Tryz.underlying36 rfl Tryz.sizeOrder ?_))
    refine (meant_any R2.out.sn N2.out (fun x hx => turnQ_lt hx) hq18 { O with nth := m, all := false } hm0 hm1).mono ?_
    rintro e w3 ⟨v', rfl, hK, hb3⟩
    have R3 := hide (R2.out.below hb3)
    have NK := hide hK
    obtain ⟨av3, cap3, rfl⟩ := hK.shape
    have HW := hide (show turnW L b O C = pickT L C.kind (meantL L (turnQ L b C) m false O.name) by unfold turnW turnM; rw [HM.out])
    have HT := hide (fun x (hx : x ∈ meantL L (turnQ L b C) m false O.name) => turnQ_lt (meant_mem hx))
    have hml : (meantL L (turnQ L b C) m false O.name).length ≤ 1 := by
      unfold meantL nthL
      rw [if_neg (by simp)]
      split <;> simp
    obtain ⟨k0, k1, k2, k3⟩ := R3.out.cells
    clear hK hb3 R2 N2 hq18 hm0 hm1 HM
    simp only at NK ⊢
    generalize meantL L (turnQ L b C) m false O.name = q at *
    cases q with
    | nil =>
      have HL := hide (show turnL L b O C = L by unfold turnL; rw [HW.out]; rfl)
      have HE := hide (show turnE L b O C = [tellE L b noThingS] by unfold turnE; rw [HW.out]; rfl)
      clear NK k0 k1 k2 k3
      go_wp2_with fail
      go_quiet (fail)
      go_wp2_with fail
      refine (rtell_any (R3.out.sn.drewN nq) b hb _ (by omega)).mono ?_
      rintro e w4 ⟨rfl, S4h, T4h⟩
      have S4 := hide S4h
      have T4 := hide ((R3.out.drewN nq).st.trans T4h)
      clear S4h T4h R3
      go_wp2
      exact bodyPost_ret (v := .tuple #[]) (results_none rfl _ _ _) rfl ⟨rfl, by rw [HL.out, HE.out]; exact S4.out, T4.out⟩
    | cons x r =>
      obtain ⟨i, ei, hi⟩ := HT.out x (List.mem_cons_self ..)
      subst ei
      obtain ⟨bq, off, cap', e, hcell⟩ := NK.out.cell (k := 0) (by simp)
      injection e with e1 e2 e3
      subst e1 e3
      have hr0 : r = [] := List.eq_nil_of_length_eq_zero (by have h := hml; simp only [List.length_cons] at h; omega)
      subst hr0
      simp only [Nat.add_zero, List.getD_cons_zero, List.length_cons, List.length_nil, Nat.zero_add] at hcell e2 ⊢
      have hii : (i : Int) < 9 := by omega
      have c0 := R3.out.sn.thing i 0 hi (by omega)
      have c1 := R3.out.sn.thing i 1 hi (by omega)
      have c4 := R3.out.sn.thing i 4 hi (by omega)
      simp only [Ld.thingCell, Nat.add_zero] at c0 c1 c4
      clear NK HT e2 hml
      by_cases h3 : L.kind i = C.kind
      · have hk3 : (L.kind i != C.kind) = false := by simp [h3]
        have HV := hide (show turnW L b O C = some i by rw [HW.out]; unfold pickT; simp [h3])
        clear h3 HW
        by_cases h4 : L.on i = C.on
        · have h4b : (L.on i == C.on) = true := by simp [h4]
          have HL := hide (show turnL L b O C = L by unfold turnL; rw [HV.out]; simp [h4])
          have HE := hide (show turnE L b O C = [tellE L b isSoS] by unfold turnE; rw [HV.out]; simp [h4])
          clear h4 HV
          go_wp2_with fail
          go_quiet (fail)
          go_wp2_with fail
          go_quiet (fail)
          go_wp2_with fail
          go_quiet (fail)
          go_wp2_with fail
          refine (rtell_any (R3.out.sn.drewN _) b hb _ (by omega)).mono ?_
          rintro e w4 ⟨rfl, S4h, T4h⟩
          have S4 := hide S4h
          have T4 := hide ((R3.out.drewN _).st.trans T4h)
          clear S4h T4h R3
          go_wp2
          exact bodyPost_ret (v := .tuple #[]) (results_none rfl _ _ _) rfl ⟨rfl, by rw [HL.out, HE.out]; exact S4.out, T4.out⟩
        · have h4b : (L.on i == C.on) = false := by simp [h4]
          have HL := hide (show turnL L b O C = L.setOn i C.on by unfold turnL; rw [HV.out]; simp [h4])
          have HE0 : turnE L b O C = [allE (if C.behind = true then L.setOn i C.on else L) (turnEv L b i C)] := by unfold turnE; rw [HV.out]; simp [h4]
          cases h5 : C.behind with
          | true =>
            have HE := hide (show turnE L b O C = [allE (L.setOn i C.on) (turnEv L b i C)] by rw [HE0, if_pos h5])
            have HB := hide h5
            clear h4 HV HE0 h5
            go_wp2_with fail
            go_quiet (fail)
            go_wp2_with fail
            go_quiet (fail)
            go_wp2_with fail
            go_quiet (fail)
            go_wp2_with fail
            generalize hW4 : w3.drewN _ = w4
            have R4 := hide (show TuRel w0 L Es { O with nth := m, all := false } C w w4 by rw [← hW4]; exact R3.out.drewN _)
            clear hW4 R3 k0 k1 k2 k3 c0 c1 c4 hcell
            refine (revent_lit R4.out.sn C.event b hb).mono ?_
            rintro e w5 ⟨rfl, hb5⟩
            have R5 := hide (R4.out.below hb5)
            have hl5 := R5.out.k1.lt
            have hg5 := R5.out.sn.lt
            obtain ⟨-, -, k2, k3⟩ := R5.out.cells
            have c0 := R5.out.sn.thing i 0 hi (by omega)
            have c4 := R5.out.sn.thing i 4 hi (by omega)
            have f4 := R5.out.sn.soft (84 + i * 5 + 4)
            simp only [Ld.thingCell, Nat.add_zero] at c0 c4
            clear hb5 R4
            rw [HB.out] at k3
            have S5 := hide (R5.out.sn.set (x := .bool C.on) (by omega) (L.up_on i hi C.on))
            have T5 : Hid (Stp w0.heap.size 165 w (w5.setCell ⟨w0.heap.size, 84 + i * 5 + 4, none⟩ (.bool C.on))) := R5.out.st.trans (Stp.put (by omega))
            have S6 := hide (S5.out.alloc (.cells (turnEv L b i C).cells 62))
            have T6 := hide (T5.out.trans (S5.out.stp (below_box _ (.cells (turnEv L b i C).cells 62)) 165))
            clear R5
            go_wp2_with (refine wl_new 62 (.tmp 11) (.tmp 73) rfl rfl _ _ rfl rfl rfl Tryz.sizeEvent rfl (by simp [Value.oneCell']) ?_)
            refine (happens_any S6.out (turnEv L b i C) (by omega)).mono ?_
            rintro e w7 ⟨rfl, S7h, T7h⟩
            have S7 := hide S7h
            have T7 := hide (T6.out.trans T7h)
            clear S7h T7h S6 T6 S5 T5
            go_wp2
            go_end0
            exact ⟨rfl, by rw [HL.out, HE.out]; exact S7.out, T7.out⟩
          | false =>
            have HE := hide (show turnE L b O C = [allE L (turnEv L b i C)] by rw [HE0, if_neg (by simp [h5])])
            have HB := hide h5
            clear h4 HV HE0 h5
            go_wp2_with fail
            go_quiet (fail)
            go_wp2_with fail
            go_quiet (fail)
            go_wp2_with fail
            go_quiet (fail)
            go_wp2_with fail
            generalize hW4 : w3.drewN _ = w4
            have R4 := hide (show TuRel w0 L Es { O with nth := m, all := false } C w w4 by rw [← hW4]; exact R3.out.drewN _)
            clear hW4 R3 k0 k1 k2 k3 c0 c1 c4 hcell
            refine (revent_lit R4.out.sn C.event b hb).mono ?_
            rintro e w5 ⟨rfl, hb5⟩
            have R5 := hide (R4.out.below hb5)
            have hl5 := R5.out.k1.lt
            have hg5 := R5.out.sn.lt
            obtain ⟨-, -, k2, k3⟩ := R5.out.cells
            have c0 := R5.out.sn.thing i 0 hi (by omega)
            have c4 := R5.out.sn.thing i 4 hi (by omega)
            have f4 := R5.out.sn.soft (84 + i * 5 + 4)
            simp only [Ld.thingCell, Nat.add_zero] at c0 c4
            clear hb5 R4
            rw [HB.out] at k3
            have hA := below_box w5 (.cells (turnEv L b i C).cells 62)
            have R6 := hide (R5.out.below hA)
            have C6 : Hid (Cev (w5.alloc (.cells (turnEv L b i C).cells 62)) w5.heap.size (turnEv L b i C)) := cev_new w5 (turnEv L b i C)
            clear hA R5
            go_wp2_with (first | (refine wl_new 62 (.tmp 11) (.tmp 73) rfl rfl _ _ rfl rfl rfl Tryz.sizeEvent rfl (by simp [Value.oneCell']) ?_) | (refine wl_event (.tmp 11) rfl rfl _ (turnEv L b i C) rfl C6.out ?_))
            refine (happens_any R6.out.sn (turnEv L b i C) (by omega)).mono ?_
            rintro e w7 ⟨rfl, S7h, T7h⟩
            have S7 := hide S7h
            have T7 := hide (R6.out.st.trans T7h)
            have q2 : w7.cell? ⟨w.heap.size + 1, 2, none⟩ = some (.bool C.on) := by
              rw [cell_of_row _ _ _ _ _ _ ((T7h.kept R6.out.k1).2.trans R6.out.chg)]; rfl
            have e4 := S7h.thing i 4 hi (by omega)
            have g4 := S7h.soft (84 + i * 5 + 4)
            simp only [Ld.thingCell] at e4
            have S8 := hide (S7h.set (x := .bool C.on) (by omega) (L.up_on i hi C.on))
            have T8 : Hid (Stp w0.heap.size 165 w (w7.setCell ⟨w0.heap.size, 84 + i * 5 + 4, none⟩ (.bool C.on))) := T7.out.trans (Stp.put (by omega))
            clear S7h T7h R6 C6 k2 k3 c0 c4 f4 T7 S7
            go_wp2
            go_end0
            exact ⟨rfl, by rw [HL.out, HE.out]; exact S8.out, T8.out⟩
      · have hk3 : (L.kind i != C.kind) = true := by simp [h3]
        have HV := hide (show turnW L b O C = none by rw [HW.out]; unfold pickT; simp [h3])
        have HL := hide (show turnL L b O C = L by unfold turnL; rw [HV.out])
        have HE := hide (show turnE L b O C = [tellE L b noThingS] by unfold turnE; rw [HV.out])
        clear h3 HW
        go_wp2_with fail
        go_quiet (fail)
        go_wp2_with fail
        refine (rtell_any (R3.out.sn.drewN nq) b hb _ (by omega)).mono ?_
        rintro e w4 ⟨rfl, S4h, T4h⟩
        have S4 := hide S4h
        have T4 := hide ((R3.out.drewN nq).st.trans T4h)
        clear S4h T4h R3
        go_wp2
        exact bodyPost_ret (v := .tuple #[]) (results_none rfl _ _ _) rfl ⟨rfl, by rw [HL.out, HE.out]; exact S4.out, T4.out⟩
end Go.Proofs.YtaifjndkgfffpaaGreatDoor
