/-
  The document's own turn: things are turned on or off (verb 12): the contract. Written by a program.
-/
import Derived.Test.YtaifjndkgfffpaaGreatDoorMgT
namespace Go.Proofs.YtaifjndkgfffpaaGreatDoor
open Go.RowKit
set_option linter.unusedVariables false
set_option maxRecDepth 100000 in
set_option maxHeartbeats 8000000 in
theorem tset_turn12 {w0 : World} {L : Ld} {Es : List Ev} {w : World} {b : Nat} (hS : Sn 52 [.int .i64 (b : Int)] w0 L Es w) (hvr : Vr w0) (hb : b < 6) (O : Od) (hvb : O.verb = 12) (hdir : dirA O.name.data.toList = (0, false)) (hn0 : -9223372036854775808 ≤ O.nth) (hn1 : O.nth ≤ 9223372036854775807) (hlen : Es.length ≤ 800000) :
    Calls Tryz.prog 22 #[.pointer (some ⟨w0.heap.size, 0, none⟩), .agg O.cells] w fun e w' => e = .returned (.tuple #[]) ∧ Sn 52 [.int .i64 (b : Int)] w0 (turnL L b O (turnedC 12)) (Es ++ turnE L b O (turnedC 12)) w' ∧ Stp w0.heap.size 166 w w' := by
  have hbi : (b : Int) < 6 := by omega
  have HVB := hide hvb
  have SZ := hide (hS.alloc (.cells O.cells 36))
  have TZ := hide (Stp.below (o := 166) (below_box w (.cells O.cells 36)) hS.lt)
  have GZ := hide (heap_alloc_new w (.cells O.cells 36))
  have KZ := hide (hS.kept (below_box w (.cells O.cells 36)) (Nat.le_refl _) (by simp))
  have o0 := cell_of_row _ w.heap.size 0 _ _ _ GZ.out
  rw [show O.cells[0]? = some (.int .i64 12) by rw [← HVB.out]; rfl] at o0
  clear hS hvb
  go_enter Tryz.func22, Tryz.ntmps22
  go_upto_region 1 with fail
  generalize w.alloc (.cells O.cells 36) = WZ at SZ TZ GZ KZ o0 ⊢
  have SY := hide (SZ.out.alloc (.cells #[.int .i64 3, .int .i64 1, .int .i64 2] 3))
  have TY := hide (TZ.out.trans (SZ.out.stp (below_box WZ (.cells #[.int .i64 3, .int .i64 1, .int .i64 2] 3)) 166))
  have KY := hide ((SZ.out.stp (below_box WZ (.cells #[.int .i64 3, .int .i64 1, .int .i64 2] 3)) 166).kept KZ.out).1
  have GY := hide (((SZ.out.stp (below_box WZ (.cells #[.int .i64 3, .int .i64 1, .int .i64 2] 3)) 166).kept KZ.out).2.trans GZ.out)
  have p0 := cell_of_row _ w.heap.size 0 _ _ _ GY.out
  rw [show O.cells[0]? = some (.int .i64 12) by rw [← HVB.out]; rfl] at p0
  have p3 := cell_of_row _ w.heap.size 3 _ _ _ GY.out
  rw [show O.cells[3]? = some (.string O.name) from rfl] at p3
  clear SZ TZ KZ GZ
  go_wp2_with fail
  clear o0
  generalize WZ.alloc (.cells #[.int .i64 3, .int .i64 1, .int .i64 2] 3) = WY at SY TY KY GY p0 p3 ⊢
  refine (dirof_any O.name _ (hvr.below SY.out.low (Nat.le_refl _))).mono ?_
  rintro e wd ⟨rfl, hwd⟩
  rw [hwd]
  clear hwd wd p3
  obtain ⟨i0, hi0, hz0, hz1, hz2⟩ := info_parts Tryz.info3
  rw [hdir]
  simp only
  clear hdir p0
  go_wp2_with fail
  refine (tmine_any SY.out).mono ?_
  rintro e w2 ⟨v1, rfl, ho1, hb1⟩
  have S2 := hide (SY.out.below hb1)
  have B2 := hide hb1
  have O2 := hide ho1
  obtain ⟨av1, cap1, rfl⟩ := ho1.shape
  clear ho1 hb1
  go_wp2_with fail
  refine (insight_any S2.out hb).mono ?_
  rintro e w3 ⟨v2, rfl, ho2, hb2⟩
  have B3 := hide (B2.out.trans (hb2.mono B2.out.size))
  have O3 := hide (O2.out.below hb2)
  have hl1 := hand_len L b
  have hl2 := sight_len L b
  have hql := reach_len L b
  have HR := hide (show reachL L b = handL L b ++ sightL L b from rfl)
  have hz := B3.out.size
  generalize handL L b = q1 at *
  rcases ho2.2 with ⟨rfl, h0⟩ | ⟨g, cap2, cur, rfl, h1, h2, h3, h4, h5, h6⟩
  · have hq : sightL L b = [] := List.eq_nil_of_length_eq_zero h0
    rw [hq, List.append_nil] at HR
    have NX := hide (numk_own SY.out B3.out O3.out)
    have SX := hide (SY.out.below B3.out)
    have TX := hide (TY.out.trans (SY.out.stp B3.out 166))
    have GX := ((SY.out.stp B3.out 166).kept KY.out).2.trans GY.out
    have o1 := cell_of_row _ w.heap.size 1 _ _ _ GX
    rw [show O.cells[1]? = some (.int .i64 O.nth) from rfl] at o1
    have o3 := cell_of_row _ w.heap.size 3 _ _ _ GX
    rw [show O.cells[3]? = some (.string O.name) from rfl] at o3
    clear GX
    clear h0 hq ho2 hb2 S2 B2 O2 SY TY KY GY
    go_wp2_with (refine wl_append_none (.tmp 127) (.tmp 129) rfl rfl WY.heap.size _ q1 rfl O3.out rfl ?_)
    rw [← HR.out] at NX ⊢
    clear O3 B3
    go_wp2_with fail
    refine (these_any SX.out NX.out (fun x hx => reach_lt hx) hql (max 1 O.nth) (by omega) (by omega) O.name false).mono ?_
    rintro e w5 ⟨v5, rfl, ho5, hb5⟩
    have S5 := hide (SX.out.below hb5)
    have T5 := hide (TX.out.trans (SX.out.stp hb5 166))
    have N5 := hide (numk_own SX.out hb5 ho5)
    obtain ⟨av5, cap5, rfl⟩ := ho5.shape
    have HM := hide (fun x (hx : x ∈ meantL L (reachL L b) (max 1 O.nth) false O.name) => reach_lt (meant_mem hx))
    clear ho5 hb5 SX TX NX o1 o3
    have HW := hide (show turnW L b O (turnedC 12) = pickT L 3 (meantL L (reachL L b) (max 1 O.nth) false O.name) by unfold turnW turnM; rw [Int.max_comm]; rfl)
    generalize meantL L (reachL L b) (max 1 O.nth) false O.name = q at *
    cases q with
    | nil =>
      have hw0 : turnW L b O (turnedC 12) = none := HW.out
      have HL := hide (show turnL L b O (turnedC 12) = L by unfold turnL; rw [hw0])
      have HE := hide (show turnE L b O (turnedC 12) = [tellE L b noThingS] by unfold turnE; rw [hw0])
      simp only [List.length_nil]
      clear N5 hw0
      go_wp2_with fail
      go_quiet (fail)
      have S6 := hide (S5.out.drewN nq)
      have T6 := hide (T5.out.trans (S5.out.stp (below_drewN (Below.refl _ _) nq) 166))
      go_wp2_with fail
      refine (ttell_any S6.out hb _ (by omega)).mono ?_
      rintro e wt ⟨rfl, Sth, Tth⟩
      have St := hide Sth
      have Tt := hide (T6.out.trans Tth)
      clear Sth Tth
      go_wp2
      exact bodyPost_ret (v := .tuple #[]) (results_none rfl _ _ _) rfl ⟨rfl, by rw [HL.out, HE.out]; exact St.out, Tt.out⟩
    | cons x r =>
      obtain ⟨i, rfl, hi⟩ := HM.out x (List.mem_cons_self ..)
      obtain ⟨bq, off, rfl, _, hcell⟩ := N5.out.head
      have c1 := S5.out.thing i 1 hi (by omega)
      simp only [Ld.thingCell] at c1
      have hii : (i : Int) < 9 := by omega
      simp only [List.length_cons]
      generalize r.length = m at *
      have hzi : (((m + 1 : Nat) : Int) == 0) = false := by simp; omega
      have HW1 := hide (show turnW L b O (turnedC 12) = if L.kind i = 3 then some i else none by rw [HW.out]; rfl)
      clear N5 HM HW
      cases hk : (L.kind i != 3) with
      | true =>
        have hw0 : turnW L b O (turnedC 12) = none := by rw [HW1.out, if_neg (by simpa using hk)]
        have HL := hide (show turnL L b O (turnedC 12) = L by unfold turnL; rw [hw0])
        have HE := hide (show turnE L b O (turnedC 12) = [tellE L b noThingS] by unfold turnE; rw [hw0])
        clear hw0
        go_wp2_with fail
        go_quiet (fail)
        have S6 := hide (S5.out.drewN nq)
        have T6 := hide (T5.out.trans (S5.out.stp (below_drewN (Below.refl _ _) nq) 166))
        go_wp2_with fail
        refine (ttell_any S6.out hb _ (by omega)).mono ?_
        rintro e wt ⟨rfl, Sth, Tth⟩
        have St := hide Sth
        have Tt := hide (T6.out.trans Tth)
        clear Sth Tth
        go_wp2
        exact bodyPost_ret (v := .tuple #[]) (results_none rfl _ _ _) rfl ⟨rfl, by rw [HL.out, HE.out]; exact St.out, Tt.out⟩
      | false =>
        have hw1 : turnW L b O (turnedC 12) = some i := by rw [HW1.out, if_pos (by simpa using hk)]
        go_wp2_with fail
        go_quiet (fail)
        have S6 := hide (S5.out.drewN nq)
        have T6 := hide (T5.out.trans (S5.out.stp (below_drewN (Below.refl _ _) nq) 166))
        have hcell6 : (w5.drewN nq).cell? ⟨bq, off, none⟩ = some (.int .i64 (i : Int)) := hcell
        clear hcell c1 S5 T5 HW1
        generalize w5.drewN nq = w6 at S6 T6 hcell6 ⊢
        go_wp2_with fail
        go_quiet (fail)
        have S7 := hide (S6.out.drewN nq)
        have T7 := hide (T6.out.trans (S6.out.stp (below_drewN (Below.refl _ _) nq) 166))
        clear hcell6 S6 T6
        generalize w6.drewN nq = w7 at S7 T7 ⊢
        have c4 := S7.out.thing i 4 hi (by omega)
        have c0 := S7.out.thing i 0 hi (by omega)
        have f4 := S7.out.soft (84 + i * 5 + 4)
        simp only [Nat.add_zero, Ld.thingCell] at c4 c0
        cases ho : L.on i with
        | true =>
          have HL := hide (show turnL L b O (turnedC 12) = L by unfold turnL; rw [hw1]; simp only; rw [if_pos (by rw [ho]; rfl)])
          have HE := hide (show turnE L b O (turnedC 12) = [tellE L b isSoS] by unfold turnE; rw [hw1]; simp only; rw [if_pos (by rw [ho]; rfl)])
          rw [ho] at c4
          clear hw1 ho
          go_wp2_with fail
          refine (ttell_any S7.out hb _ (by omega)).mono ?_
          rintro e wt ⟨rfl, Sth, Tth⟩
          have St := hide Sth
          have Tt := hide (T7.out.trans Tth)
          clear Sth Tth
          go_wp2
          exact bodyPost_ret (v := .tuple #[]) (results_none rfl _ _ _) rfl ⟨rfl, by rw [HL.out, HE.out]; exact St.out, Tt.out⟩
        | false =>
          have HL := hide (show turnL L b O (turnedC 12) = L.setOn i true by unfold turnL; rw [hw1]; simp only; rw [if_neg (by rw [ho]; simp [turnedC])]; rfl)
          have HE := hide (show turnE L b O (turnedC 12) = [allE (L.setOn i true) (addE (L.setOn i true) b 8 (-1) 0 0 ⟨#[]⟩ (L.tname i) ⟨#[]⟩)] by unfold turnE; rw [hw1]; simp only; rw [if_neg (by rw [ho]; simp [turnedC])]; rfl)
          rw [ho] at c4
          have S8 : Hid (Sn 52 [.int .i64 (b : Int)] w0 (L.setOn i true) Es (w7.setCell ⟨w0.heap.size, 84 + i * 5 + 4, none⟩ (.bool true))) := S7.out.set (by omega) (L.up_on i hi true)
          have T8 : Hid (Stp w0.heap.size 166 w (w7.setCell ⟨w0.heap.size, 84 + i * 5 + 4, none⟩ (.bool true))) := T7.out.trans (Stp.put (by omega))
          clear hw1 ho
          go_wp2_with fail
          refine (tadd_none S8.out hb 8 0 0 (L.tname i) ⟨#[]⟩ (by omega)).mono ?_
          rintro e w9 ⟨rfl, S9h, T9h⟩
          have S9 := hide S9h
          have T9 := hide (T8.out.trans T9h)
          clear S9h T9h S8 T8 c4 c0 f4 S7 T7
          go_wp2
          go_end0
          exact ⟨rfl, by rw [HL.out, HE.out]; exact S9.out, T9.out⟩
  · have HC := hide (show ∀ j u, (icells (sightL L b))[j]? = some u → w3.cell? ((⟨g, 0, none⟩ : Addr).add j) = some u from ho2.cells rfl)
    clear ho2 hb2 S2 B2 O2 h1 h2 h3 h4 h5 h6
    generalize sightL L b = q2 at *
    go_wp2_with (at_builtin; refine wpList_append_own_at _ rfl (.tmp 127) (.tmp 129) 59 rfl WY.heap.size 3 i0 (.int .i64 0) 1 8 Tryz.underlying59 hi0 hz0 hz1 hz2 rfl (by decide) _ q1.length (icells q1) rfl O3.out ⟨g, 0, none⟩ q2.length cap2 (icells q2) rfl ?a1 HC.out ?a3 ?a4 ?a5 ?a6 ?_)
    case a1 => simp [icells_length]
    case a3 => intro u hu; simp only [icells, List.mem_map] at hu; obtain ⟨n, _, rfl⟩ := hu; rfl
    case a4 => unfold maxLen; omega
    case a5 => omega
    case a6 => exact hz
    intro v' w4 hoo hg _ _
    have A : Hid (OwnI WY.heap.size w4 v' (q1 ++ q2)) := by
      show w4.ownsRow _ _ _ _ _ _
      simpa [icells] using hoo
    have B : Hid (Below WY.heap.size WY w4) := B3.out.grown hg hz (fun k hk => (O3.out.lt k (by simpa using hk)).1)
    have NX := hide (numk_own SY.out B.out A.out)
    have SX := hide (SY.out.below B.out)
    have TX := hide (TY.out.trans (SY.out.stp B.out 166))
    have GX := ((SY.out.stp B.out 166).kept KY.out).2.trans GY.out
    have o1 := cell_of_row _ w.heap.size 1 _ _ _ GX
    rw [show O.cells[1]? = some (.int .i64 O.nth) from rfl] at o1
    have o3 := cell_of_row _ w.heap.size 3 _ _ _ GX
    rw [show O.cells[3]? = some (.string O.name) from rfl] at o3
    clear GX
    rw [← HR.out] at NX
    have hAv : ∃ av cap, v' = .slice av (reachL L b).length cap := by rw [HR.out]; exact A.out.shape
    obtain ⟨av', cap', rfl⟩ := hAv
    clear hoo hg A B O3 B3 SY TY KY GY HC
    go_wp2_with fail
    refine (these_any SX.out NX.out (fun x hx => reach_lt hx) hql (max 1 O.nth) (by omega) (by omega) O.name false).mono ?_
    rintro e w5 ⟨v5, rfl, ho5, hb5⟩
    have S5 := hide (SX.out.below hb5)
    have T5 := hide (TX.out.trans (SX.out.stp hb5 166))
    have N5 := hide (numk_own SX.out hb5 ho5)
    obtain ⟨av5, cap5, rfl⟩ := ho5.shape
    have HM := hide (fun x (hx : x ∈ meantL L (reachL L b) (max 1 O.nth) false O.name) => reach_lt (meant_mem hx))
    clear ho5 hb5 SX TX NX o1 o3
    have HW := hide (show turnW L b O (turnedC 12) = pickT L 3 (meantL L (reachL L b) (max 1 O.nth) false O.name) by unfold turnW turnM; rw [Int.max_comm]; rfl)
    generalize meantL L (reachL L b) (max 1 O.nth) false O.name = q at *
    cases q with
    | nil =>
      have hw0 : turnW L b O (turnedC 12) = none := HW.out
      have HL := hide (show turnL L b O (turnedC 12) = L by unfold turnL; rw [hw0])
      have HE := hide (show turnE L b O (turnedC 12) = [tellE L b noThingS] by unfold turnE; rw [hw0])
      simp only [List.length_nil]
      clear N5 hw0
      go_wp2_with fail
      go_quiet (fail)
      have S6 := hide (S5.out.drewN nq)
      have T6 := hide (T5.out.trans (S5.out.stp (below_drewN (Below.refl _ _) nq) 166))
      go_wp2_with fail
      refine (ttell_any S6.out hb _ (by omega)).mono ?_
      rintro e wt ⟨rfl, Sth, Tth⟩
      have St := hide Sth
      have Tt := hide (T6.out.trans Tth)
      clear Sth Tth
      go_wp2
      exact bodyPost_ret (v := .tuple #[]) (results_none rfl _ _ _) rfl ⟨rfl, by rw [HL.out, HE.out]; exact St.out, Tt.out⟩
    | cons x r =>
      obtain ⟨i, rfl, hi⟩ := HM.out x (List.mem_cons_self ..)
      obtain ⟨bq, off, rfl, _, hcell⟩ := N5.out.head
      have c1 := S5.out.thing i 1 hi (by omega)
      simp only [Ld.thingCell] at c1
      have hii : (i : Int) < 9 := by omega
      simp only [List.length_cons]
      generalize r.length = m at *
      have hzi : (((m + 1 : Nat) : Int) == 0) = false := by simp; omega
      have HW1 := hide (show turnW L b O (turnedC 12) = if L.kind i = 3 then some i else none by rw [HW.out]; rfl)
      clear N5 HM HW
      cases hk : (L.kind i != 3) with
      | true =>
        have hw0 : turnW L b O (turnedC 12) = none := by rw [HW1.out, if_neg (by simpa using hk)]
        have HL := hide (show turnL L b O (turnedC 12) = L by unfold turnL; rw [hw0])
        have HE := hide (show turnE L b O (turnedC 12) = [tellE L b noThingS] by unfold turnE; rw [hw0])
        clear hw0
        go_wp2_with fail
        go_quiet (fail)
        have S6 := hide (S5.out.drewN nq)
        have T6 := hide (T5.out.trans (S5.out.stp (below_drewN (Below.refl _ _) nq) 166))
        go_wp2_with fail
        refine (ttell_any S6.out hb _ (by omega)).mono ?_
        rintro e wt ⟨rfl, Sth, Tth⟩
        have St := hide Sth
        have Tt := hide (T6.out.trans Tth)
        clear Sth Tth
        go_wp2
        exact bodyPost_ret (v := .tuple #[]) (results_none rfl _ _ _) rfl ⟨rfl, by rw [HL.out, HE.out]; exact St.out, Tt.out⟩
      | false =>
        have hw1 : turnW L b O (turnedC 12) = some i := by rw [HW1.out, if_pos (by simpa using hk)]
        go_wp2_with fail
        go_quiet (fail)
        have S6 := hide (S5.out.drewN nq)
        have T6 := hide (T5.out.trans (S5.out.stp (below_drewN (Below.refl _ _) nq) 166))
        have hcell6 : (w5.drewN nq).cell? ⟨bq, off, none⟩ = some (.int .i64 (i : Int)) := hcell
        clear hcell c1 S5 T5 HW1
        generalize w5.drewN nq = w6 at S6 T6 hcell6 ⊢
        go_wp2_with fail
        go_quiet (fail)
        have S7 := hide (S6.out.drewN nq)
        have T7 := hide (T6.out.trans (S6.out.stp (below_drewN (Below.refl _ _) nq) 166))
        clear hcell6 S6 T6
        generalize w6.drewN nq = w7 at S7 T7 ⊢
        have c4 := S7.out.thing i 4 hi (by omega)
        have c0 := S7.out.thing i 0 hi (by omega)
        have f4 := S7.out.soft (84 + i * 5 + 4)
        simp only [Nat.add_zero, Ld.thingCell] at c4 c0
        cases ho : L.on i with
        | true =>
          have HL := hide (show turnL L b O (turnedC 12) = L by unfold turnL; rw [hw1]; simp only; rw [if_pos (by rw [ho]; rfl)])
          have HE := hide (show turnE L b O (turnedC 12) = [tellE L b isSoS] by unfold turnE; rw [hw1]; simp only; rw [if_pos (by rw [ho]; rfl)])
          rw [ho] at c4
          clear hw1 ho
          go_wp2_with fail
          refine (ttell_any S7.out hb _ (by omega)).mono ?_
          rintro e wt ⟨rfl, Sth, Tth⟩
          have St := hide Sth
          have Tt := hide (T7.out.trans Tth)
          clear Sth Tth
          go_wp2
          exact bodyPost_ret (v := .tuple #[]) (results_none rfl _ _ _) rfl ⟨rfl, by rw [HL.out, HE.out]; exact St.out, Tt.out⟩
        | false =>
          have HL := hide (show turnL L b O (turnedC 12) = L.setOn i true by unfold turnL; rw [hw1]; simp only; rw [if_neg (by rw [ho]; simp [turnedC])]; rfl)
          have HE := hide (show turnE L b O (turnedC 12) = [allE (L.setOn i true) (addE (L.setOn i true) b 8 (-1) 0 0 ⟨#[]⟩ (L.tname i) ⟨#[]⟩)] by unfold turnE; rw [hw1]; simp only; rw [if_neg (by rw [ho]; simp [turnedC])]; rfl)
          rw [ho] at c4
          have S8 : Hid (Sn 52 [.int .i64 (b : Int)] w0 (L.setOn i true) Es (w7.setCell ⟨w0.heap.size, 84 + i * 5 + 4, none⟩ (.bool true))) := S7.out.set (by omega) (L.up_on i hi true)
          have T8 : Hid (Stp w0.heap.size 166 w (w7.setCell ⟨w0.heap.size, 84 + i * 5 + 4, none⟩ (.bool true))) := T7.out.trans (Stp.put (by omega))
          clear hw1 ho
          go_wp2_with fail
          refine (tadd_none S8.out hb 8 0 0 (L.tname i) ⟨#[]⟩ (by omega)).mono ?_
          rintro e w9 ⟨rfl, S9h, T9h⟩
          have S9 := hide S9h
          have T9 := hide (T8.out.trans T9h)
          clear S9h T9h S8 T8 c4 c0 f4 S7 T7
          go_wp2
          go_end0
          exact ⟨rfl, by rw [HL.out, HE.out]; exact S9.out, T9.out⟩
/-
  The document's own turn: things are turned on or off (verb 13): the contract. Written by a program.
-/
set_option maxRecDepth 100000 in
set_option maxHeartbeats 8000000 in
theorem tset_turn13 {w0 : World} {L : Ld} {Es : List Ev} {w : World} {b : Nat} (hS : Sn 52 [.int .i64 (b : Int)] w0 L Es w) (hvr : Vr w0) (hb : b < 6) (O : Od) (hvb : O.verb = 13) (hdir : dirA O.name.data.toList = (0, false)) (hn0 : -9223372036854775808 ≤ O.nth) (hn1 : O.nth ≤ 9223372036854775807) (hlen : Es.length ≤ 800000) :
    Calls Tryz.prog 22 #[.pointer (some ⟨w0.heap.size, 0, none⟩), .agg O.cells] w fun e w' => e = .returned (.tuple #[]) ∧ Sn 52 [.int .i64 (b : Int)] w0 (turnL L b O (turnedC 13)) (Es ++ turnE L b O (turnedC 13)) w' ∧ Stp w0.heap.size 166 w w' := by
  have hbi : (b : Int) < 6 := by omega
  have HVB := hide hvb
  have SZ := hide (hS.alloc (.cells O.cells 36))
  have TZ := hide (Stp.below (o := 166) (below_box w (.cells O.cells 36)) hS.lt)
  have GZ := hide (heap_alloc_new w (.cells O.cells 36))
  have KZ := hide (hS.kept (below_box w (.cells O.cells 36)) (Nat.le_refl _) (by simp))
  have o0 := cell_of_row _ w.heap.size 0 _ _ _ GZ.out
  rw [show O.cells[0]? = some (.int .i64 13) by rw [← HVB.out]; rfl] at o0
  clear hS hvb
  go_enter Tryz.func22, Tryz.ntmps22
  go_upto_region 1 with fail
  generalize w.alloc (.cells O.cells 36) = WZ at SZ TZ GZ KZ o0 ⊢
  have SY := hide (SZ.out.alloc (.cells #[.int .i64 3, .int .i64 1, .int .i64 2] 3))
  have TY := hide (TZ.out.trans (SZ.out.stp (below_box WZ (.cells #[.int .i64 3, .int .i64 1, .int .i64 2] 3)) 166))
  have KY := hide ((SZ.out.stp (below_box WZ (.cells #[.int .i64 3, .int .i64 1, .int .i64 2] 3)) 166).kept KZ.out).1
  have GY := hide (((SZ.out.stp (below_box WZ (.cells #[.int .i64 3, .int .i64 1, .int .i64 2] 3)) 166).kept KZ.out).2.trans GZ.out)
  have p0 := cell_of_row _ w.heap.size 0 _ _ _ GY.out
  rw [show O.cells[0]? = some (.int .i64 13) by rw [← HVB.out]; rfl] at p0
  have p3 := cell_of_row _ w.heap.size 3 _ _ _ GY.out
  rw [show O.cells[3]? = some (.string O.name) from rfl] at p3
  clear SZ TZ KZ GZ
  go_wp2_with fail
  clear o0
  generalize WZ.alloc (.cells #[.int .i64 3, .int .i64 1, .int .i64 2] 3) = WY at SY TY KY GY p0 p3 ⊢
  refine (dirof_any O.name _ (hvr.below SY.out.low (Nat.le_refl _))).mono ?_
  rintro e wd ⟨rfl, hwd⟩
  rw [hwd]
  clear hwd wd p3
  obtain ⟨i0, hi0, hz0, hz1, hz2⟩ := info_parts Tryz.info3
  rw [hdir]
  simp only
  clear hdir p0
  go_wp2_with fail
  refine (tmine_any SY.out).mono ?_
  rintro e w2 ⟨v1, rfl, ho1, hb1⟩
  have S2 := hide (SY.out.below hb1)
  have B2 := hide hb1
  have O2 := hide ho1
  obtain ⟨av1, cap1, rfl⟩ := ho1.shape
  clear ho1 hb1
  go_wp2_with fail
  refine (insight_any S2.out hb).mono ?_
  rintro e w3 ⟨v2, rfl, ho2, hb2⟩
  have B3 := hide (B2.out.trans (hb2.mono B2.out.size))
  have O3 := hide (O2.out.below hb2)
  have hl1 := hand_len L b
  have hl2 := sight_len L b
  have hql := reach_len L b
  have HR := hide (show reachL L b = handL L b ++ sightL L b from rfl)
  have hz := B3.out.size
  generalize handL L b = q1 at *
  rcases ho2.2 with ⟨rfl, h0⟩ | ⟨g, cap2, cur, rfl, h1, h2, h3, h4, h5, h6⟩
  · have hq : sightL L b = [] := List.eq_nil_of_length_eq_zero h0
    rw [hq, List.append_nil] at HR
    have NX := hide (numk_own SY.out B3.out O3.out)
    have SX := hide (SY.out.below B3.out)
    have TX := hide (TY.out.trans (SY.out.stp B3.out 166))
    have GX := ((SY.out.stp B3.out 166).kept KY.out).2.trans GY.out
    have o1 := cell_of_row _ w.heap.size 1 _ _ _ GX
    rw [show O.cells[1]? = some (.int .i64 O.nth) from rfl] at o1
    have o3 := cell_of_row _ w.heap.size 3 _ _ _ GX
    rw [show O.cells[3]? = some (.string O.name) from rfl] at o3
    clear GX
    clear h0 hq ho2 hb2 S2 B2 O2 SY TY KY GY
    go_wp2_with (refine wl_append_none (.tmp 127) (.tmp 129) rfl rfl WY.heap.size _ q1 rfl O3.out rfl ?_)
    rw [← HR.out] at NX ⊢
    clear O3 B3
    go_wp2_with fail
    refine (these_any SX.out NX.out (fun x hx => reach_lt hx) hql (max 1 O.nth) (by omega) (by omega) O.name false).mono ?_
    rintro e w5 ⟨v5, rfl, ho5, hb5⟩
    have S5 := hide (SX.out.below hb5)
    have T5 := hide (TX.out.trans (SX.out.stp hb5 166))
    have N5 := hide (numk_own SX.out hb5 ho5)
    obtain ⟨av5, cap5, rfl⟩ := ho5.shape
    have HM := hide (fun x (hx : x ∈ meantL L (reachL L b) (max 1 O.nth) false O.name) => reach_lt (meant_mem hx))
    clear ho5 hb5 SX TX NX o1 o3
    have HW := hide (show turnW L b O (turnedC 13) = pickT L 3 (meantL L (reachL L b) (max 1 O.nth) false O.name) by unfold turnW turnM; rw [Int.max_comm]; rfl)
    generalize meantL L (reachL L b) (max 1 O.nth) false O.name = q at *
    cases q with
    | nil =>
      have hw0 : turnW L b O (turnedC 13) = none := HW.out
      have HL := hide (show turnL L b O (turnedC 13) = L by unfold turnL; rw [hw0])
      have HE := hide (show turnE L b O (turnedC 13) = [tellE L b noThingS] by unfold turnE; rw [hw0])
      simp only [List.length_nil]
      clear N5 hw0
      go_wp2_with fail
      go_quiet (fail)
      have S6 := hide (S5.out.drewN nq)
      have T6 := hide (T5.out.trans (S5.out.stp (below_drewN (Below.refl _ _) nq) 166))
      go_wp2_with fail
      refine (ttell_any S6.out hb _ (by omega)).mono ?_
      rintro e wt ⟨rfl, Sth, Tth⟩
      have St := hide Sth
      have Tt := hide (T6.out.trans Tth)
      clear Sth Tth
      go_wp2
      exact bodyPost_ret (v := .tuple #[]) (results_none rfl _ _ _) rfl ⟨rfl, by rw [HL.out, HE.out]; exact St.out, Tt.out⟩
    | cons x r =>
      obtain ⟨i, rfl, hi⟩ := HM.out x (List.mem_cons_self ..)
      obtain ⟨bq, off, rfl, _, hcell⟩ := N5.out.head
      have c1 := S5.out.thing i 1 hi (by omega)
      simp only [Ld.thingCell] at c1
      have hii : (i : Int) < 9 := by omega
      simp only [List.length_cons]
      generalize r.length = m at *
      have hzi : (((m + 1 : Nat) : Int) == 0) = false := by simp; omega
      have HW1 := hide (show turnW L b O (turnedC 13) = if L.kind i = 3 then some i else none by rw [HW.out]; rfl)
      clear N5 HM HW
      cases hk : (L.kind i != 3) with
      | true =>
        have hw0 : turnW L b O (turnedC 13) = none := by rw [HW1.out, if_neg (by simpa using hk)]
        have HL := hide (show turnL L b O (turnedC 13) = L by unfold turnL; rw [hw0])
        have HE := hide (show turnE L b O (turnedC 13) = [tellE L b noThingS] by unfold turnE; rw [hw0])
        clear hw0
        go_wp2_with fail
        go_quiet (fail)
        have S6 := hide (S5.out.drewN nq)
        have T6 := hide (T5.out.trans (S5.out.stp (below_drewN (Below.refl _ _) nq) 166))
        go_wp2_with fail
        refine (ttell_any S6.out hb _ (by omega)).mono ?_
        rintro e wt ⟨rfl, Sth, Tth⟩
        have St := hide Sth
        have Tt := hide (T6.out.trans Tth)
        clear Sth Tth
        go_wp2
        exact bodyPost_ret (v := .tuple #[]) (results_none rfl _ _ _) rfl ⟨rfl, by rw [HL.out, HE.out]; exact St.out, Tt.out⟩
      | false =>
        have hw1 : turnW L b O (turnedC 13) = some i := by rw [HW1.out, if_pos (by simpa using hk)]
        go_wp2_with fail
        go_quiet (fail)
        have S6 := hide (S5.out.drewN nq)
        have T6 := hide (T5.out.trans (S5.out.stp (below_drewN (Below.refl _ _) nq) 166))
        have hcell6 : (w5.drewN nq).cell? ⟨bq, off, none⟩ = some (.int .i64 (i : Int)) := hcell
        clear hcell c1 S5 T5 HW1
        generalize w5.drewN nq = w6 at S6 T6 hcell6 ⊢
        go_wp2_with fail
        go_quiet (fail)
        have S7 := hide (S6.out.drewN nq)
        have T7 := hide (T6.out.trans (S6.out.stp (below_drewN (Below.refl _ _) nq) 166))
        clear hcell6 S6 T6
        generalize w6.drewN nq = w7 at S7 T7 ⊢
        have c4 := S7.out.thing i 4 hi (by omega)
        have c0 := S7.out.thing i 0 hi (by omega)
        have f4 := S7.out.soft (84 + i * 5 + 4)
        simp only [Nat.add_zero, Ld.thingCell] at c4 c0
        cases ho : L.on i with
        | false =>
          have HL := hide (show turnL L b O (turnedC 13) = L by unfold turnL; rw [hw1]; simp only; rw [if_pos (by rw [ho]; rfl)])
          have HE := hide (show turnE L b O (turnedC 13) = [tellE L b isSoS] by unfold turnE; rw [hw1]; simp only; rw [if_pos (by rw [ho]; rfl)])
          rw [ho] at c4
          clear hw1 ho
          go_wp2_with fail
          refine (ttell_any S7.out hb _ (by omega)).mono ?_
          rintro e wt ⟨rfl, Sth, Tth⟩
          have St := hide Sth
          have Tt := hide (T7.out.trans Tth)
          clear Sth Tth
          go_wp2
          exact bodyPost_ret (v := .tuple #[]) (results_none rfl _ _ _) rfl ⟨rfl, by rw [HL.out, HE.out]; exact St.out, Tt.out⟩
        | true =>
          have HL := hide (show turnL L b O (turnedC 13) = L.setOn i false by unfold turnL; rw [hw1]; simp only; rw [if_neg (by rw [ho]; simp [turnedC])]; rfl)
          have HE := hide (show turnE L b O (turnedC 13) = [allE L (addE L b 9 (-1) 0 0 ⟨#[]⟩ (L.tname i) ⟨#[]⟩)] by unfold turnE; rw [hw1]; simp only; rw [if_neg (by rw [ho]; simp [turnedC])]; rfl)
          rw [ho] at c4
          clear hw1
          go_wp2_with fail
          refine (tadd_none S7.out hb 9 0 0 (L.tname i) ⟨#[]⟩ (by omega)).mono ?_
          rintro e w8 ⟨rfl, S8h, T8h⟩
          have d4 := S8h.thing i 4 hi (by omega)
          have g4 := S8h.soft (84 + i * 5 + 4)
          simp only [Ld.thingCell] at d4
          rw [ho] at d4
          have S9 : Hid (Sn 52 [.int .i64 (b : Int)] w0 (L.setOn i false) _ (w8.setCell ⟨w0.heap.size, 84 + i * 5 + 4, none⟩ (.bool false))) := S8h.set (by omega) (L.up_on i hi false)
          have T9 : Hid (Stp w0.heap.size 166 w (w8.setCell ⟨w0.heap.size, 84 + i * 5 + 4, none⟩ (.bool false))) := (T7.out.trans T8h).trans (Stp.put (by omega))
          clear S8h T8h c4 c0 f4 S7 T7 ho
          go_wp2
          go_end0
          exact ⟨rfl, by rw [HL.out, HE.out]; exact S9.out, T9.out⟩
  · have HC := hide (show ∀ j u, (icells (sightL L b))[j]? = some u → w3.cell? ((⟨g, 0, none⟩ : Addr).add j) = some u from ho2.cells rfl)
    clear ho2 hb2 S2 B2 O2 h1 h2 h3 h4 h5 h6
    generalize sightL L b = q2 at *
    go_wp2_with (at_builtin; refine wpList_append_own_at _ rfl (.tmp 127) (.tmp 129) 59 rfl WY.heap.size 3 i0 (.int .i64 0) 1 8 Tryz.underlying59 hi0 hz0 hz1 hz2 rfl (by decide) _ q1.length (icells q1) rfl O3.out ⟨g, 0, none⟩ q2.length cap2 (icells q2) rfl ?a1 HC.out ?a3 ?a4 ?a5 ?a6 ?_)
    case a1 => simp [icells_length]
    case a3 => intro u hu; simp only [icells, List.mem_map] at hu; obtain ⟨n, _, rfl⟩ := hu; rfl
    case a4 => unfold maxLen; omega
    case a5 => omega
    case a6 => exact hz
    intro v' w4 hoo hg _ _
    have A : Hid (OwnI WY.heap.size w4 v' (q1 ++ q2)) := by
      show w4.ownsRow _ _ _ _ _ _
      simpa [icells] using hoo
    have B : Hid (Below WY.heap.size WY w4) := B3.out.grown hg hz (fun k hk => (O3.out.lt k (by simpa using hk)).1)
    have NX := hide (numk_own SY.out B.out A.out)
    have SX := hide (SY.out.below B.out)
    have TX := hide (TY.out.trans (SY.out.stp B.out 166))
    have GX := ((SY.out.stp B.out 166).kept KY.out).2.trans GY.out
    have o1 := cell_of_row _ w.heap.size 1 _ _ _ GX
    rw [show O.cells[1]? = some (.int .i64 O.nth) from rfl] at o1
    have o3 := cell_of_row _ w.heap.size 3 _ _ _ GX
    rw [show O.cells[3]? = some (.string O.name) from rfl] at o3
    clear GX
    rw [← HR.out] at NX
    have hAv : ∃ av cap, v' = .slice av (reachL L b).length cap := by rw [HR.out]; exact A.out.shape
    obtain ⟨av', cap', rfl⟩ := hAv
    clear hoo hg A B O3 B3 SY TY KY GY HC
    go_wp2_with fail
    refine (these_any SX.out NX.out (fun x hx => reach_lt hx) hql (max 1 O.nth) (by omega) (by omega) O.name false).mono ?_
    rintro e w5 ⟨v5, rfl, ho5, hb5⟩
    have S5 := hide (SX.out.below hb5)
    have T5 := hide (TX.out.trans (SX.out.stp hb5 166))
    have N5 := hide (numk_own SX.out hb5 ho5)
    obtain ⟨av5, cap5, rfl⟩ := ho5.shape
    have HM := hide (fun x (hx : x ∈ meantL L (reachL L b) (max 1 O.nth) false O.name) => reach_lt (meant_mem hx))
    clear ho5 hb5 SX TX NX o1 o3
    have HW := hide (show turnW L b O (turnedC 13) = pickT L 3 (meantL L (reachL L b) (max 1 O.nth) false O.name) by unfold turnW turnM; rw [Int.max_comm]; rfl)
    generalize meantL L (reachL L b) (max 1 O.nth) false O.name = q at *
    cases q with
    | nil =>
      have hw0 : turnW L b O (turnedC 13) = none := HW.out
      have HL := hide (show turnL L b O (turnedC 13) = L by unfold turnL; rw [hw0])
      have HE := hide (show turnE L b O (turnedC 13) = [tellE L b noThingS] by unfold turnE; rw [hw0])
      simp only [List.length_nil]
      clear N5 hw0
      go_wp2_with fail
      go_quiet (fail)
      have S6 := hide (S5.out.drewN nq)
      have T6 := hide (T5.out.trans (S5.out.stp (below_drewN (Below.refl _ _) nq) 166))
      go_wp2_with fail
      refine (ttell_any S6.out hb _ (by omega)).mono ?_
      rintro e wt ⟨rfl, Sth, Tth⟩
      have St := hide Sth
      have Tt := hide (T6.out.trans Tth)
      clear Sth Tth
      go_wp2
      exact bodyPost_ret (v := .tuple #[]) (results_none rfl _ _ _) rfl ⟨rfl, by rw [HL.out, HE.out]; exact St.out, Tt.out⟩
    | cons x r =>
      obtain ⟨i, rfl, hi⟩ := HM.out x (List.mem_cons_self ..)
      obtain ⟨bq, off, rfl, _, hcell⟩ := N5.out.head
      have c1 := S5.out.thing i 1 hi (by omega)
      simp only [Ld.thingCell] at c1
      have hii : (i : Int) < 9 := by omega
      simp only [List.length_cons]
      generalize r.length = m at *
      have hzi : (((m + 1 : Nat) : Int) == 0) = false := by simp; omega
      have HW1 := hide (show turnW L b O (turnedC 13) = if L.kind i = 3 then some i else none by rw [HW.out]; rfl)
      clear N5 HM HW
      cases hk : (L.kind i != 3) with
      | true =>
        have hw0 : turnW L b O (turnedC 13) = none := by rw [HW1.out, if_neg (by simpa using hk)]
        have HL := hide (show turnL L b O (turnedC 13) = L by unfold turnL; rw [hw0])
        have HE := hide (show turnE L b O (turnedC 13) = [tellE L b noThingS] by unfold turnE; rw [hw0])
        clear hw0
        go_wp2_with fail
        go_quiet (fail)
        have S6 := hide (S5.out.drewN nq)
        have T6 := hide (T5.out.trans (S5.out.stp (below_drewN (Below.refl _ _) nq) 166))
        go_wp2_with fail
        refine (ttell_any S6.out hb _ (by omega)).mono ?_
        rintro e wt ⟨rfl, Sth, Tth⟩
        have St := hide Sth
        have Tt := hide (T6.out.trans Tth)
        clear Sth Tth
        go_wp2
        exact bodyPost_ret (v := .tuple #[]) (results_none rfl _ _ _) rfl ⟨rfl, by rw [HL.out, HE.out]; exact St.out, Tt.out⟩
      | false =>
        have hw1 : turnW L b O (turnedC 13) = some i := by rw [HW1.out, if_pos (by simpa using hk)]
        go_wp2_with fail
        go_quiet (fail)
        have S6 := hide (S5.out.drewN nq)
        have T6 := hide (T5.out.trans (S5.out.stp (below_drewN (Below.refl _ _) nq) 166))
        have hcell6 : (w5.drewN nq).cell? ⟨bq, off, none⟩ = some (.int .i64 (i : Int)) := hcell
        clear hcell c1 S5 T5 HW1
        generalize w5.drewN nq = w6 at S6 T6 hcell6 ⊢
        go_wp2_with fail
        go_quiet (fail)
        have S7 := hide (S6.out.drewN nq)
        have T7 := hide (T6.out.trans (S6.out.stp (below_drewN (Below.refl _ _) nq) 166))
        clear hcell6 S6 T6
        generalize w6.drewN nq = w7 at S7 T7 ⊢
        have c4 := S7.out.thing i 4 hi (by omega)
        have c0 := S7.out.thing i 0 hi (by omega)
        have f4 := S7.out.soft (84 + i * 5 + 4)
        simp only [Nat.add_zero, Ld.thingCell] at c4 c0
        cases ho : L.on i with
        | false =>
          have HL := hide (show turnL L b O (turnedC 13) = L by unfold turnL; rw [hw1]; simp only; rw [if_pos (by rw [ho]; rfl)])
          have HE := hide (show turnE L b O (turnedC 13) = [tellE L b isSoS] by unfold turnE; rw [hw1]; simp only; rw [if_pos (by rw [ho]; rfl)])
          rw [ho] at c4
          clear hw1 ho
          go_wp2_with fail
          refine (ttell_any S7.out hb _ (by omega)).mono ?_
          rintro e wt ⟨rfl, Sth, Tth⟩
          have St := hide Sth
          have Tt := hide (T7.out.trans Tth)
          clear Sth Tth
          go_wp2
          exact bodyPost_ret (v := .tuple #[]) (results_none rfl _ _ _) rfl ⟨rfl, by rw [HL.out, HE.out]; exact St.out, Tt.out⟩
        | true =>
          have HL := hide (show turnL L b O (turnedC 13) = L.setOn i false by unfold turnL; rw [hw1]; simp only; rw [if_neg (by rw [ho]; simp [turnedC])]; rfl)
          have HE := hide (show turnE L b O (turnedC 13) = [allE L (addE L b 9 (-1) 0 0 ⟨#[]⟩ (L.tname i) ⟨#[]⟩)] by unfold turnE; rw [hw1]; simp only; rw [if_neg (by rw [ho]; simp [turnedC])]; rfl)
          rw [ho] at c4
          clear hw1
          go_wp2_with fail
          refine (tadd_none S7.out hb 9 0 0 (L.tname i) ⟨#[]⟩ (by omega)).mono ?_
          rintro e w8 ⟨rfl, S8h, T8h⟩
          have d4 := S8h.thing i 4 hi (by omega)
          have g4 := S8h.soft (84 + i * 5 + 4)
          simp only [Ld.thingCell] at d4
          rw [ho] at d4
          have S9 : Hid (Sn 52 [.int .i64 (b : Int)] w0 (L.setOn i false) _ (w8.setCell ⟨w0.heap.size, 84 + i * 5 + 4, none⟩ (.bool false))) := S8h.set (by omega) (L.up_on i hi false)
          have T9 : Hid (Stp w0.heap.size 166 w (w8.setCell ⟨w0.heap.size, 84 + i * 5 + 4, none⟩ (.bool false))) := (T7.out.trans T8h).trans (Stp.put (by omega))
          clear S8h T8h c4 c0 f4 S7 T7 ho
          go_wp2
          go_end0
          exact ⟨rfl, by rw [HL.out, HE.out]; exact S9.out, T9.out⟩
end Go.Proofs.YtaifjndkgfffpaaGreatDoor
