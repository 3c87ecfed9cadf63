/-
  The document's own turn: things are taken: the contract.
-/
import Derived.Test.YtaifjndkgfffpaaGreatDoorMgQ
import Derived.Test.YtaifjndkgfffpaaGreatDoorMgI
namespace Go.Proofs.YtaifjndkgfffpaaGreatDoor
open Go.RowKit
set_option linter.unusedVariables false

set_option maxRecDepth 100000 in
set_option maxHeartbeats 8000000 in
theorem tget_any {w0 : World} {L : Ld} {Es : List Ev} {w : World} {b : Nat} (hS : Sn 52 [.int .i64 (b : Int)] w0 L Es w) (hb : b < 6) (O : Od) (hs : O.second.size ≤ 8796093022207) (hn0 : -9223372036854775808 ≤ O.nth) (hn1 : O.nth ≤ 9223372036854775807) (hlen : Es.length ≤ 900000) :
    Calls Tryz.prog 14 #[.pointer (some ⟨w0.heap.size, 0, none⟩), .agg O.cells] w fun e w' => e = .returned (.tuple #[]) ∧ Sn 52 [.int .i64 (b : Int)] w0 (getAL L b O) (Es ++ getAE L b O) w' ∧ Stp w0.heap.size 166 w w' := by
  have hbi : (b : Int) < 6 := by omega
  have X0 := hide (hS.alloc (.cells O.cells 36))
  have T0 := hide (Stp.below (o := 166) (below_box w (.cells O.cells 36)) hS.lt)
  have G0 := hide (heap_alloc_new w (.cells O.cells 36))
  have K0 := hide (hS.kept (below_box w (.cells O.cells 36)) (Nat.le_refl _) (by simp))
  clear hS
  go_enter Tryz.func14, Tryz.ntmps14
  go_wp2_with fail
  refine (insight_any X0.out hb).mono ?_
  rintro e w1 ⟨v, rfl, ho, hb1⟩
  have S1 := hide (X0.out.below hb1)
  have T1 := hide (T0.out.trans (X0.out.stp hb1 166))
  have N1 := hide (numk_own X0.out hb1 ho)
  have G1 := hide (show w1.heap[w.heap.size]? = some (.cells O.cells 36 (0, 0)) by rw [hb1.block _ (by simp)]; exact G0.out)
  have o4 : w1.cell? ⟨w.heap.size, 4, none⟩ = some (.string O.second) := by rw [cell_of_row _ _ _ _ _ _ G1.out]; rfl
  have K1 := hide ((X0.out.stp hb1 166).kept K0.out).1
  obtain ⟨av, cap, rfl⟩ := ho.shape
  clear ho hb1 X0 T0 G0 K0
  cases he : decide (O.second = ⟨#[]⟩) with
  | true =>
    have hsn : O.second.toList.isEmpty = true := by rw [empty_iff]; exact he
    have h2 : O.second = ⟨#[]⟩ := by simpa using he
    have HL := hide (show getAL L b O = (takeS L b (meantL L (sightL L b) O.nth O.all O.name)).1 by unfold getAL; rw [if_pos h2]; rfl)
    have HE := hide (show getAE L b O = sigE L b (meantL L (sightL L b) O.nth O.all O.name) noThingS ++ (takeS L b (meantL L (sightL L b) O.nth O.all O.name)).2 by unfold getAE; rw [if_pos h2]; rfl)
    have o1 : w1.cell? ⟨w.heap.size, 1, none⟩ = some (.int .i64 O.nth) := by rw [cell_of_row _ _ _ _ _ _ G1.out]; rfl
    have o2 : w1.cell? ⟨w.heap.size, 2, none⟩ = some (.bool O.all) := by rw [cell_of_row _ _ _ _ _ _ G1.out]; rfl
    have o3 : w1.cell? ⟨w.heap.size, 3, none⟩ = some (.string O.name) := by rw [cell_of_row _ _ _ _ _ _ G1.out]; rfl
    have SA := S1
    have TA := T1
    have NA := N1
    have hsl := sight_len L b
    clear he h2 S1 T1 N1 K1 G1
    go_wp2_with fail
    refine (these_any SA.out NA.out (fun x hx => sight_lt hx) (by omega) O.nth hn0 hn1 O.name O.all).mono ?_
    rintro e w2 ⟨v', rfl, ho2, hb2⟩
    have S2 := hide (SA.out.below hb2)
    have T2 := hide (TA.out.trans (SA.out.stp hb2 166))
    have N2 := hide (numk_own SA.out hb2 ho2)
    obtain ⟨av2, cap2, rfl⟩ := ho2.shape
    have HM := hide (fun x (hx : x ∈ meantL L (sightL L b) O.nth O.all O.name) => sight_lt (meant_mem hx))
    have hml := meant_len (L := L) (q := (sightL L b)) (n := O.nth) (all := O.all) (name := O.name)
    have hml9 : (meantL L (sightL L b) O.nth O.all O.name).length ≤ 9 := by omega
    clear ho2 hb2 SA TA NA o1 o2 o3 hml
    generalize meantL L (sightL L b) O.nth O.all O.name = q at *
    generalize hn : q.length = n at *
    have HNn := hide hn
    clear hn
    cases hz : decide (n = 0) with
    | true =>
      have hz0 : n = 0 := by simpa using hz
      subst hz0
      have hq0 : q = [] := List.eq_nil_of_length_eq_zero HNn.out
      have HE2 := hide (show getAE L b O = [tellE L b noThingS] by rw [HE.out, hq0]; rfl)
      have HL2 := hide (show getAL L b O = L by rw [HL.out, hq0]; rfl)
      clear hz hq0
      go_wp2_with fail
      refine (ttell_any S2.out hb _ (by omega)).mono ?_
      rintro e w3 ⟨rfl, S3h, T3h⟩
      have S3 := hide S3h
      have T3 := hide (T2.out.trans T3h)
      clear S3h T3h S2 T2 N2
      go_wp2_with fail
      go_loopw [42] (fun c wr => c = .int .i64 0 ∧ wr = w3) (fun _ _ => 0)
      case atStart => exact ⟨rfl, rfl⟩
      case round =>
        obtain ⟨rfl, rfl⟩ := hrel
        go_wp2
        go_end0
        exact ⟨rfl, by rw [HL2.out, HE2.out]; exact S3.out, T3.out⟩
    | false =>
      have hz0 : n ≠ 0 := by simpa using hz
      have hzi : ((n : Int) == 0) = false := by simp; omega
      have hq0 : q ≠ [] := fun e => by have := HNn.out; rw [e] at this; simp at this; omega
      have HE2 := hide (show getAE L b O = (takeS L b q).2 by rw [HE.out]; unfold sigE; rw [if_neg hq0]; rfl)
      clear hz hq0
      go_wp2_with fail
      go_loopw [42] (fun c wr => ∃ k : Nat, k ≤ n ∧ c = .int .i64 k ∧ Sn 52 [.int .i64 (b : Int)] w0 (takeS L b (q.take k)).1 (Es ++ (takeS L b (q.take k)).2) wr ∧ Stp w0.heap.size 166 w wr ∧ NumK w0.heap.size 166 wr (.slice av2 n cap2) q) (fun c _ => n - (intOf c).toNat)
      case atStart => exact ⟨0, by omega, rfl, by simpa [takeS] using S2.out, T2.out, N2.out⟩
      case round =>
        obtain ⟨k, hle, rfl, Rh, Th, Nh⟩ := hrel
        have R := hide Rh
        have TT := hide Th
        have N := hide Nh
        clear Rh Th Nh S2 T2 N2
        by_cases hk : k < n
        · have hkq : k < q.length := by rw [HNn.out]; exact hk
          obtain ⟨bq, off, cap', e, hcell⟩ := N.out.cell hkq
          rw [HNn.out] at e
          injection e with e1 e2 e3
          subst e1 e3
          clear e2
          obtain ⟨i, ei, hi⟩ := HM.out _ (getD_mem hkq)
          have HT := hide (show takeS L b (q.take (k + 1)) = gstep b (takeS L b (q.take k)) (i : Int) by rw [take_next L b hkq, ei])
          rw [ei] at hcell
          have htl : (takeS L b (q.take k)).2.length ≤ 9 := by rw [take_len]; simp; omega
          clear ei
          generalize takeS L b (q.take k) = s at *
          have hii : (i : Int) < 9 := by omega
          have cb : wr.cell? ⟨w0.heap.size, 165, none⟩ = some (.int .i64 (b : Int)) := R.out.fore 0 (by simp)
          have c2 := R.out.thing i 2 hi (by omega)
          have c3 := R.out.thing i 3 hi (by omega)
          have f2 := R.out.soft (84 + i * 5 + 2)
          have f3 := R.out.soft (84 + i * 5 + 3)
          simp only [Ld.thingCell] at c2 c3
          have S3 : Hid (Sn 52 [.int .i64 (b : Int)] w0 (moveL s.1 i 1 (b : Int)) (Es ++ s.2) ((wr.setCell ⟨w0.heap.size, 84 + i * 5 + 2, none⟩ (.int .i64 1)).setCell ⟨w0.heap.size, 84 + i * 5 + 3, none⟩ (.int .i64 (b : Int))).drew) := ((R.out.set (by omega) (s.1.up_wh i hi 1)).set (by omega) ((s.1.setWh i 1).up_loc i hi (b : Int))).drew
          have T3 : Hid (Stp w0.heap.size 166 wr ((wr.setCell ⟨w0.heap.size, 84 + i * 5 + 2, none⟩ (.int .i64 1)).setCell ⟨w0.heap.size, 84 + i * 5 + 3, none⟩ (.int .i64 (b : Int))).drew) := ((Stp.put (o := 166) (n := 84 + i * 5 + 2) (x := .int .i64 1) (by omega)).trans (Stp.put (o := 166) (n := 84 + i * 5 + 3) (x := .int .i64 (b : Int)) (by omega))).trans (((R.out.set (by omega) (s.1.up_wh i hi 1)).set (by omega) ((s.1.setWh i 1).up_loc i hi (b : Int))).stp (below_drewN (Below.refl _ _) 1) 166)
          have c0 := S3.out.thing i 0 hi (by omega)
          simp only [Nat.add_zero, Ld.thingCell] at c0
          have ht0 : (moveL s.1 i 1 (b : Int)).tname i = s.1.tname i := rfl
          rw [ht0] at c0
          go_wp2_with fail
          go_region
          generalize ((wr.setCell ⟨w0.heap.size, 84 + i * 5 + 2, none⟩ (.int .i64 1)).setCell ⟨w0.heap.size, 84 + i * 5 + 3, none⟩ (.int .i64 (b : Int))).drew = w3 at S3 T3 c0 ⊢
          clear c2 c3 f2 f3 cb
          go_wp2_with fail
          refine (tadd_none S3.out hb 3 0 0 (s.1.tname i) ⟨#[]⟩ (by simp only [List.length_append]; omega)).mono ?_
          rintro e w4 ⟨rfl, S4h, T4h⟩
          have S4 := hide S4h
          have T4 := hide (TT.out.trans (T3.out.trans T4h))
          have N4 := hide (N.out.step (T3.out.trans T4h))
          have HG := hide (show gstep b s (i : Int) = (moveL s.1 i 1 (b : Int), s.2 ++ [allE (moveL s.1 i 1 (b : Int)) (addE (moveL s.1 i 1 (b : Int)) b 3 (-1) 0 0 ⟨#[]⟩ (s.1.tname i) ⟨#[]⟩)]) from rfl)
          clear S4h T4h R TT N S3 T3 c0 hcell
          go_wp2
          go_roundw
          case rel => exact ⟨k + 1, by omega, by go_num, by rw [HT.out, HG.out]; have h := S4.out; rw [List.append_assoc] at h; exact h, T4.out, N4.out⟩
          case measure => simp [intOf]; omega
        · have hkn : k = n := by omega
          subst hkn
          have hall : q.take k = q := by rw [← HNn.out]; exact List.take_length
          rw [hall] at R
          clear hall
          go_wp2
          go_end0
          exact ⟨rfl, by rw [HL.out, HE2.out]; exact R.out, TT.out⟩
  | false =>
    have hsn : O.second.toList.isEmpty = false := by rw [empty_iff]; exact he
    have h2 : O.second ≠ ⟨#[]⟩ := by simpa using he
    have HL0 := hide (show getAL L b O = getBL L b O by unfold getAL; rw [if_neg h2])
    have HE0 := hide (show getAE L b O = getBE L b O by unfold getAE; rw [if_neg h2])
    clear he h2 N1
    go_wp2_with fail
    refine (boxof_any S1.out hb O.second hs (by omega)).mono ?_
    rintro e w1b h
    clear o4
    rcases h with ⟨box, hbx, rfl, S1h, T1h⟩ | ⟨hbx, rfl, S1h, T1h⟩
    rotate_left
    · have HL := hide (show getAL L b O = L by rw [HL0.out]; unfold getBL; rw [hbx])
      have HE := hide (show getAE L b O = [tellE L b (boxL L b O.second).2] by rw [HE0.out]; unfold getBE; rw [hbx])
      have S1b := hide S1h
      have T1b := hide (T1.out.trans T1h)
      clear S1h T1h hbx S1 T1 G1 K1 HL0 HE0
      go_wp2
      exact bodyPost_ret (v := .tuple #[]) (results_none rfl _ _ _) rfl ⟨rfl, by rw [HL.out, HE.out]; exact S1b.out, T1b.out⟩
    have HL := hide (show getAL L b O = (takeS L b (meantL L (hasK L 2 (box : Int) 9) O.nth O.all O.name)).1 by rw [HL0.out]; unfold getBL; rw [hbx]; rfl)
    have HE := hide (show getAE L b O = sigE L b (meantL L (hasK L 2 (box : Int) 9) O.nth O.all O.name) noThingS ++ (takeS L b (meantL L (hasK L 2 (box : Int) 9) O.nth O.all O.name)).2 by rw [HE0.out]; unfold getBE; rw [hbx]; rfl)
    have S1b := hide S1h
    have T1b := hide (T1.out.trans T1h)
    have K1b := hide (T1h.kept K1.out).1
    have G1b := hide ((T1h.kept K1.out).2.trans G1.out)
    clear S1h T1h hbx S1 T1 G1 K1 HL0 HE0
    go_wp2_with (refine wl_scene (.tmp 22) rfl rfl rfl S1b.out ?_)
    refine (hasat_own L 2 (box : Int) _).mono ?_
    rintro e w1c ⟨v, rfl, ho, hbc⟩
    have SA := hide (S1b.out.below hbc)
    have TA := hide (T1b.out.trans (S1b.out.stp hbc 166))
    have G1c := hide (((S1b.out.stp hbc 166).kept K1b.out).2.trans G1b.out)
    have NA := hide (numk_own S1b.out hbc (OwnI.base (show OwnI _ _ _ _ from ho) (Nat.le_succ _)))
    have o1 : w1c.cell? ⟨w.heap.size, 1, none⟩ = some (.int .i64 O.nth) := by rw [cell_of_row _ _ _ _ _ _ G1c.out]; rfl
    have o2 : w1c.cell? ⟨w.heap.size, 2, none⟩ = some (.bool O.all) := by rw [cell_of_row _ _ _ _ _ _ G1c.out]; rfl
    have o3 : w1c.cell? ⟨w.heap.size, 3, none⟩ = some (.string O.name) := by rw [cell_of_row _ _ _ _ _ _ G1c.out]; rfl
    obtain ⟨avc, capc, rfl⟩ := own_shapeN ho
    have hsl : (hasK L 2 (box : Int) 9).length ≤ 9 := hasK_len ..
    clear ho hbc S1b T1b G1b K1b G1c
    go_wp2_with fail
    refine (these_any SA.out NA.out (fun x hx => has_lt hx) (by omega) O.nth hn0 hn1 O.name O.all).mono ?_
    rintro e w2 ⟨v', rfl, ho2, hb2⟩
    have S2 := hide (SA.out.below hb2)
    have T2 := hide (TA.out.trans (SA.out.stp hb2 166))
    have N2 := hide (numk_own SA.out hb2 ho2)
    obtain ⟨av2, cap2, rfl⟩ := ho2.shape
    have HM := hide (fun x (hx : x ∈ meantL L (hasK L 2 (box : Int) 9) O.nth O.all O.name) => has_lt (meant_mem hx))
    have hml := meant_len (L := L) (q := (hasK L 2 (box : Int) 9)) (n := O.nth) (all := O.all) (name := O.name)
    have hml9 : (meantL L (hasK L 2 (box : Int) 9) O.nth O.all O.name).length ≤ 9 := by omega
    clear ho2 hb2 SA TA NA o1 o2 o3 hml
    generalize meantL L (hasK L 2 (box : Int) 9) O.nth O.all O.name = q at *
    generalize hn : q.length = n at *
    have HNn := hide hn
    clear hn
    cases hz : decide (n = 0) with
    | true =>
      have hz0 : n = 0 := by simpa using hz
      subst hz0
      have hq0 : q = [] := List.eq_nil_of_length_eq_zero HNn.out
      have HE2 := hide (show getAE L b O = [tellE L b noThingS] by rw [HE.out, hq0]; rfl)
      have HL2 := hide (show getAL L b O = L by rw [HL.out, hq0]; rfl)
      clear hz hq0
      go_wp2_with fail
      refine (ttell_any S2.out hb _ (by omega)).mono ?_
      rintro e w3 ⟨rfl, S3h, T3h⟩
      have S3 := hide S3h
      have T3 := hide (T2.out.trans T3h)
      clear S3h T3h S2 T2 N2
      go_wp2_with fail
      go_loopw [42] (fun c wr => c = .int .i64 0 ∧ wr = w3) (fun _ _ => 0)
      case atStart => exact ⟨rfl, rfl⟩
      case round =>
        obtain ⟨rfl, rfl⟩ := hrel
        go_wp2
        go_end0
        exact ⟨rfl, by rw [HL2.out, HE2.out]; exact S3.out, T3.out⟩
    | false =>
      have hz0 : n ≠ 0 := by simpa using hz
      have hzi : ((n : Int) == 0) = false := by simp; omega
      have hq0 : q ≠ [] := fun e => by have := HNn.out; rw [e] at this; simp at this; omega
      have HE2 := hide (show getAE L b O = (takeS L b q).2 by rw [HE.out]; unfold sigE; rw [if_neg hq0]; rfl)
      clear hz hq0
      go_wp2_with fail
      go_loopw [42] (fun c wr => ∃ k : Nat, k ≤ n ∧ c = .int .i64 k ∧ Sn 52 [.int .i64 (b : Int)] w0 (takeS L b (q.take k)).1 (Es ++ (takeS L b (q.take k)).2) wr ∧ Stp w0.heap.size 166 w wr ∧ NumK w0.heap.size 166 wr (.slice av2 n cap2) q) (fun c _ => n - (intOf c).toNat)
      case atStart => exact ⟨0, by omega, rfl, by simpa [takeS] using S2.out, T2.out, N2.out⟩
      case round =>
        obtain ⟨k, hle, rfl, Rh, Th, Nh⟩ := hrel
        have R := hide Rh
        have TT := hide Th
        have N := hide Nh
        clear Rh Th Nh S2 T2 N2
        by_cases hk : k < n
        · have hkq : k < q.length := by rw [HNn.out]; exact hk
          obtain ⟨bq, off, cap', e, hcell⟩ := N.out.cell hkq
          rw [HNn.out] at e
          injection e with e1 e2 e3
          subst e1 e3
          clear e2
          obtain ⟨i, ei, hi⟩ := HM.out _ (getD_mem hkq)
          have HT := hide (show takeS L b (q.take (k + 1)) = gstep b (takeS L b (q.take k)) (i : Int) by rw [take_next L b hkq, ei])
          rw [ei] at hcell
          have htl : (takeS L b (q.take k)).2.length ≤ 9 := by rw [take_len]; simp; omega
          clear ei
          generalize takeS L b (q.take k) = s at *
          have hii : (i : Int) < 9 := by omega
          have cb : wr.cell? ⟨w0.heap.size, 165, none⟩ = some (.int .i64 (b : Int)) := R.out.fore 0 (by simp)
          have c2 := R.out.thing i 2 hi (by omega)
          have c3 := R.out.thing i 3 hi (by omega)
          have f2 := R.out.soft (84 + i * 5 + 2)
          have f3 := R.out.soft (84 + i * 5 + 3)
          simp only [Ld.thingCell] at c2 c3
          have S3 : Hid (Sn 52 [.int .i64 (b : Int)] w0 (moveL s.1 i 1 (b : Int)) (Es ++ s.2) ((wr.setCell ⟨w0.heap.size, 84 + i * 5 + 2, none⟩ (.int .i64 1)).setCell ⟨w0.heap.size, 84 + i * 5 + 3, none⟩ (.int .i64 (b : Int))).drew) := ((R.out.set (by omega) (s.1.up_wh i hi 1)).set (by omega) ((s.1.setWh i 1).up_loc i hi (b : Int))).drew
          have T3 : Hid (Stp w0.heap.size 166 wr ((wr.setCell ⟨w0.heap.size, 84 + i * 5 + 2, none⟩ (.int .i64 1)).setCell ⟨w0.heap.size, 84 + i * 5 + 3, none⟩ (.int .i64 (b : Int))).drew) := ((Stp.put (o := 166) (n := 84 + i * 5 + 2) (x := .int .i64 1) (by omega)).trans (Stp.put (o := 166) (n := 84 + i * 5 + 3) (x := .int .i64 (b : Int)) (by omega))).trans (((R.out.set (by omega) (s.1.up_wh i hi 1)).set (by omega) ((s.1.setWh i 1).up_loc i hi (b : Int))).stp (below_drewN (Below.refl _ _) 1) 166)
          have c0 := S3.out.thing i 0 hi (by omega)
          simp only [Nat.add_zero, Ld.thingCell] at c0
          have ht0 : (moveL s.1 i 1 (b : Int)).tname i = s.1.tname i := rfl
          rw [ht0] at c0
          go_wp2_with fail
          go_region
          generalize ((wr.setCell ⟨w0.heap.size, 84 + i * 5 + 2, none⟩ (.int .i64 1)).setCell ⟨w0.heap.size, 84 + i * 5 + 3, none⟩ (.int .i64 (b : Int))).drew = w3 at S3 T3 c0 ⊢
          clear c2 c3 f2 f3 cb
          go_wp2_with fail
          refine (tadd_none S3.out hb 3 0 0 (s.1.tname i) ⟨#[]⟩ (by simp only [List.length_append]; omega)).mono ?_
          rintro e w4 ⟨rfl, S4h, T4h⟩
          have S4 := hide S4h
          have T4 := hide (TT.out.trans (T3.out.trans T4h))
          have N4 := hide (N.out.step (T3.out.trans T4h))
          have HG := hide (show gstep b s (i : Int) = (moveL s.1 i 1 (b : Int), s.2 ++ [allE (moveL s.1 i 1 (b : Int)) (addE (moveL s.1 i 1 (b : Int)) b 3 (-1) 0 0 ⟨#[]⟩ (s.1.tname i) ⟨#[]⟩)]) from rfl)
          clear S4h T4h R TT N S3 T3 c0 hcell
          go_wp2
          go_roundw
          case rel => exact ⟨k + 1, by omega, by go_num, by rw [HT.out, HG.out]; have h := S4.out; rw [List.append_assoc] at h; exact h, T4.out, N4.out⟩
          case measure => simp [intOf]; omega
        · have hkn : k = n := by omega
          subst hkn
          have hall : q.take k = q := by rw [← HNn.out]; exact List.take_length
          rw [hall] at R
          clear hall
          go_wp2
          go_end0
          exact ⟨rfl, by rw [HL.out, HE2.out]; exact R.out, TT.out⟩
end Go.Proofs.YtaifjndkgfffpaaGreatDoor
