/-
  The document's own Perceived and Everybody: contracts.
-/
import Derived.Test.YtaifjndkgfffpaaDoorSnRefD
import Derived.Test.YtaifjndkgfffpaaDoorMgC
namespace Go.Proofs.YtaifjndkgfffpaaDoor
open Go.RowKit
set_option linter.unusedVariables false

set_option maxRecDepth 100000 in
set_option maxHeartbeats 2000000 in
theorem perceived_any (L : Ld) (b : Int) (E : Ev) (w : World) :
    Calls Tryd.prog 80 #[.agg L.cells, .int .i64 b, .agg E.cells] w fun e w' => e = .returned (.int .i64 (percL L b E.kind E.room E.actor E.other)) ∧ Below w.heap.size w w' := by
  have P0 := hide (pv_start L E w)
  cases ha : abtL L b with
  | false =>
    have HV := hide (perc_gone (kind := E.kind) (room := E.room) (actor := E.actor) (other := E.other) ha)
    go_enter Tryd.func80, Tryd.ntmps80
    go_wp2_with (refine wl_land (.tmp 3) rfl rfl _ L rfl P0.out.cod ?_)
    refine (about_any L b _).mono ?_
    rintro e w1 ⟨rfl, hb⟩
    have G1 := hide (P0.out.call hb)
    rw [ha]
    clear hb ha
    go_wp2
    go_ret
    exact ⟨ret_int HV.out.symm, G1.out.low⟩
  | true =>
    have pa : amg b 6 = true := by simp only [abtL, Bool.and_eq_true] at ha; exact ha.1
    obtain ⟨a0, a6⟩ := amg_pos pa
    obtain ⟨b, rfl⟩ := Int.eq_ofNat_of_zero_le a0
    have HA := hide ha
    clear ha pa
    by_cases hn : (b : Int) = E.actor
    · have HT := hide (perc_own (kind := E.kind) (room := E.room) (other := E.other) HA.out hn)
      have e1 : ((b : Int) == E.actor) = true := by simp [hn]
      clear hn
      go_enter Tryd.func80, Tryd.ntmps80
      go_wp2_with (refine wl_land (.tmp 3) rfl rfl _ L rfl P0.out.cod ?_)
      refine (about_any L (b : Int) _).mono ?_
      rintro e w1 ⟨rfl, hb⟩
      have G1 := hide (P0.out.call hb)
      rw [HA.out]
      have k0 := G1.out.cev.kind
      have k1 := G1.out.cev.room
      have k2 := G1.out.cev.actor
      have kr : w1.cell? ⟨w.heap.size, 129 + b * 6 + 3, none⟩ = some (.int .i64 (L.room b)) := G1.out.cod.being b 3 (by omega) (by omega)
      clear hb
      go_wp2_with fail
      go_region
      all_goals have G1d := hide G1.out.drew
      all_goals clear k0 k1 k2 kr
      all_goals
        have k3 := G1d.out.cev.othr
        by_cases ho0 : 0 ≤ E.other
        · by_cases ho6 : E.other < 6
          · have HO := hide (amg_mk ho0 ho6)
            go_wp2_with (refine wl_land (.tmp 3) rfl rfl _ L rfl G1d.out.cod ?_)
            refine (isseen_any L (b : Int) E.other _).mono ?_
            rintro e w8 ⟨rfl, hb⟩
            have G8 := hide (G1d.out.call hb)
            clear hb k3
            cases hs : seesL L (b : Int) E.other with
            | true =>
              have HN := hide (show percL L (b : Int) E.kind E.room E.actor E.other = 1 by rw [HT.out]; simp [hs])
              go_wp2
              go_ret
              exact ⟨ret_int HN.out.symm, G8.out.low⟩
            | false =>
              have HN := hide (show percL L (b : Int) E.kind E.room E.actor E.other = 5 by rw [HT.out]; simp [hs, HO.out])
              go_wp2
              go_ret
              exact ⟨ret_int HN.out.symm, G8.out.low⟩
          · have HN := hide (show percL L (b : Int) E.kind E.room E.actor E.other = 1 by rw [HT.out, amg_no (by omega)]; simp)
            have d6 : decide (E.other < 6) = false := decide_eq_false ho6
            have d6' : 6 ≤ E.other := by omega
            clear ho6
            go_wp2
            go_ret
            exact ⟨ret_int HN.out.symm, G1d.out.low⟩
        · have HN := hide (show percL L (b : Int) E.kind E.room E.actor E.other = 1 by rw [HT.out, amg_no (by omega)]; simp)
          go_wp2
          go_ret
          exact ⟨ret_int HN.out.symm, G1d.out.low⟩
    · have e1 : ((b : Int) == E.actor) = false := by simp [hn]
      have HNE := hide hn
      clear hn
      by_cases h16 : E.kind = 16
      · have HN := hide (perc_told (other := E.other) (room := E.room) HA.out HNE.out (.inl h16))
        have e16 : (E.kind == 16) = true := by simp [h16]
        clear h16
        go_enter Tryd.func80, Tryd.ntmps80
        go_wp2_with (refine wl_land (.tmp 3) rfl rfl _ L rfl P0.out.cod ?_)
        refine (about_any L (b : Int) _).mono ?_
        rintro e w1 ⟨rfl, hb⟩
        have G1 := hide (P0.out.call hb)
        rw [HA.out]
        have k0 := G1.out.cev.kind
        have k1 := G1.out.cev.room
        have k2 := G1.out.cev.actor
        have kr : w1.cell? ⟨w.heap.size, 129 + b * 6 + 3, none⟩ = some (.int .i64 (L.room b)) := G1.out.cod.being b 3 (by omega) (by omega)
        clear hb
        go_wp2_with fail
        go_region
        all_goals go_wp2
        all_goals go_ret
        all_goals exact ⟨ret_int HN.out.symm, G1.out.drew.low⟩
      · have e16 : (E.kind == 16) = false := by simp [h16]
        have H16 := hide h16
        clear h16
        by_cases hr : L.room b = E.room
        · have er : (L.room b != E.room) = false := by simp [hr]
          have H2 := hide (show ¬ (E.kind = 16 ∨ L.room (b : Int).toNat ≠ E.room) by
            rw [Int.toNat_natCast]; intro h; rcases h with h | h
            · exact H16.out h
            · exact h hr)
          clear hr
          go_enter Tryd.func80, Tryd.ntmps80
          go_wp2_with (refine wl_land (.tmp 3) rfl rfl _ L rfl P0.out.cod ?_)
          refine (about_any L (b : Int) _).mono ?_
          rintro e w1 ⟨rfl, hb⟩
          have G1 := hide (P0.out.call hb)
          rw [HA.out]
          have k0 := G1.out.cev.kind
          have k1 := G1.out.cev.room
          have k2 := G1.out.cev.actor
          have kr : w1.cell? ⟨w.heap.size, 129 + b * 6 + 3, none⟩ = some (.int .i64 (L.room b)) := G1.out.cod.being b 3 (by omega) (by omega)
          clear hb
          go_wp2_with fail
          go_region
          all_goals
            have G1d := hide G1.out.drew
            go_wp2_with (refine wl_land (.tmp 3) rfl rfl _ L rfl G1d.out.cod ?_)
            refine (isseen_any L (b : Int) E.actor _).mono ?_
            rintro e w3 ⟨rfl, hb⟩
            have G3 := hide (G1d.out.call hb)
            clear hb k0 k1 k2 kr
            have k0 := G3.out.cev.kind
            cases hs : seesL L (b : Int) E.actor with
            | true =>
              have HT := hide (perc_seen (other := E.other) HA.out HNE.out H2.out hs)
              clear hs
              have k3 := G3.out.cev.othr
              by_cases ho0 : 0 ≤ E.other
              · by_cases ho6 : E.other < 6
                · have HO := hide (amg_mk ho0 ho6)
                  go_wp2_with (refine wl_land (.tmp 3) rfl rfl _ L rfl G3.out.cod ?_)
                  refine (isseen_any L (b : Int) E.other _).mono ?_
                  rintro e w8 ⟨rfl, hb⟩
                  have G8 := hide (G3.out.call hb)
                  clear hb k3
                  cases hs : seesL L (b : Int) E.other with
                  | true =>
                    have HN := hide (show percL L (b : Int) E.kind E.room E.actor E.other = 1 by rw [HT.out]; simp [hs])
                    go_wp2
                    go_ret
                    exact ⟨ret_int HN.out.symm, G8.out.low⟩
                  | false =>
                    have HN := hide (show percL L (b : Int) E.kind E.room E.actor E.other = 5 by rw [HT.out]; simp [hs, HO.out])
                    go_wp2
                    go_ret
                    exact ⟨ret_int HN.out.symm, G8.out.low⟩
                · have HN := hide (show percL L (b : Int) E.kind E.room E.actor E.other = 1 by rw [HT.out, amg_no (by omega)]; simp)
                  have d6 : decide (E.other < 6) = false := decide_eq_false ho6
                  have d6' : 6 ≤ E.other := by omega
                  clear ho6
                  go_wp2
                  go_ret
                  exact ⟨ret_int HN.out.symm, G3.out.low⟩
              · have HN := hide (show percL L (b : Int) E.kind E.room E.actor E.other = 1 by rw [HT.out, amg_no (by omega)]; simp)
                go_wp2
                go_ret
                exact ⟨ret_int HN.out.symm, G3.out.low⟩
            | false =>
              have HS := hide hs
              clear hs
              cases hl : loud E.kind with
              | false =>
                have HN := hide (perc_quiet (other := E.other) HA.out HNE.out H2.out HS.out hl)
                have hl3 : E.kind ≠ 7 ∧ E.kind ≠ 14 ∧ E.kind ≠ 15 := by simp [loud] at hl; exact ⟨hl.1.1, hl.1.2, hl.2⟩
                have q7 : (E.kind != 7) = true := by simp [hl3.1]
                have q14 : (E.kind != 14) = true := by simp [hl3.2.1]
                have q15 : (E.kind != 15) = true := by simp [hl3.2.2]
                clear hl hl3
                go_wp2
                go_ret
                exact ⟨ret_int HN.out.symm, G3.out.low⟩
              | true =>
                by_cases e7 : E.kind = 7
                · have HT := hide (perc_heard (other := E.other) HA.out HNE.out H2.out HS.out hl)
                  have q7 : (E.kind != 7) = false := by simp [e7]
                  clear hl e7
                  have k3 := G3.out.cev.othr
                  by_cases ho0 : 0 ≤ E.other
                  · by_cases ho6 : E.other < 6
                    · have HO := hide (amg_mk ho0 ho6)
                      go_wp2_with (refine wl_land (.tmp 3) rfl rfl _ L rfl G3.out.cod ?_)
                      refine (isseen_any L (b : Int) E.other _).mono ?_
                      rintro e w8 ⟨rfl, hb⟩
                      have G8 := hide (G3.out.call hb)
                      clear hb k3
                      cases hs : seesL L (b : Int) E.other with
                      | true =>
                        have HN := hide (show percL L (b : Int) E.kind E.room E.actor E.other = 3 by rw [HT.out]; simp [hs])
                        go_wp2
                        go_ret
                        exact ⟨ret_int HN.out.symm, G8.out.low⟩
                      | false =>
                        have HN := hide (show percL L (b : Int) E.kind E.room E.actor E.other = 7 by rw [HT.out]; simp [hs, HO.out])
                        go_wp2
                        go_ret
                        exact ⟨ret_int HN.out.symm, G8.out.low⟩
                    · have HN := hide (show percL L (b : Int) E.kind E.room E.actor E.other = 3 by rw [HT.out, amg_no (by omega)]; simp)
                      have d6 : decide (E.other < 6) = false := decide_eq_false ho6
                      have d6' : 6 ≤ E.other := by omega
                      clear ho6
                      go_wp2
                      go_ret
                      exact ⟨ret_int HN.out.symm, G3.out.low⟩
                  · have HN := hide (show percL L (b : Int) E.kind E.room E.actor E.other = 3 by rw [HT.out, amg_no (by omega)]; simp)
                    go_wp2
                    go_ret
                    exact ⟨ret_int HN.out.symm, G3.out.low⟩
                · by_cases e14 : E.kind = 14
                  · have HT := hide (perc_heard (other := E.other) HA.out HNE.out H2.out HS.out hl)
                    have q7 : (E.kind != 7) = true := by simp [e7]
                    have q14 : (E.kind != 14) = false := by simp [e14]
                    clear hl e7 e14
                    have k3 := G3.out.cev.othr
                    by_cases ho0 : 0 ≤ E.other
                    · by_cases ho6 : E.other < 6
                      · have HO := hide (amg_mk ho0 ho6)
                        go_wp2_with (refine wl_land (.tmp 3) rfl rfl _ L rfl G3.out.cod ?_)
                        refine (isseen_any L (b : Int) E.other _).mono ?_
                        rintro e w8 ⟨rfl, hb⟩
                        have G8 := hide (G3.out.call hb)
                        clear hb k3
                        cases hs : seesL L (b : Int) E.other with
                        | true =>
                          have HN := hide (show percL L (b : Int) E.kind E.room E.actor E.other = 3 by rw [HT.out]; simp [hs])
                          go_wp2
                          go_ret
                          exact ⟨ret_int HN.out.symm, G8.out.low⟩
                        | false =>
                          have HN := hide (show percL L (b : Int) E.kind E.room E.actor E.other = 7 by rw [HT.out]; simp [hs, HO.out])
                          go_wp2
                          go_ret
                          exact ⟨ret_int HN.out.symm, G8.out.low⟩
                      · have HN := hide (show percL L (b : Int) E.kind E.room E.actor E.other = 3 by rw [HT.out, amg_no (by omega)]; simp)
                        have d6 : decide (E.other < 6) = false := decide_eq_false ho6
                        have d6' : 6 ≤ E.other := by omega
                        clear ho6
                        go_wp2
                        go_ret
                        exact ⟨ret_int HN.out.symm, G3.out.low⟩
                    · have HN := hide (show percL L (b : Int) E.kind E.room E.actor E.other = 3 by rw [HT.out, amg_no (by omega)]; simp)
                      go_wp2
                      go_ret
                      exact ⟨ret_int HN.out.symm, G3.out.low⟩
                  · have e15 : E.kind = 15 := by simp [loud, e7, e14] at hl; exact hl
                    have HT := hide (perc_heard (other := E.other) HA.out HNE.out H2.out HS.out hl)
                    have q7 : (E.kind != 7) = true := by simp [e7]
                    have q14 : (E.kind != 14) = true := by simp [e14]
                    have q15 : (E.kind != 15) = false := by simp [e15]
                    clear hl e7 e14 e15
                    have k3 := G3.out.cev.othr
                    by_cases ho0 : 0 ≤ E.other
                    · by_cases ho6 : E.other < 6
                      · have HO := hide (amg_mk ho0 ho6)
                        go_wp2_with (refine wl_land (.tmp 3) rfl rfl _ L rfl G3.out.cod ?_)
                        refine (isseen_any L (b : Int) E.other _).mono ?_
                        rintro e w8 ⟨rfl, hb⟩
                        have G8 := hide (G3.out.call hb)
                        clear hb k3
                        cases hs : seesL L (b : Int) E.other with
                        | true =>
                          have HN := hide (show percL L (b : Int) E.kind E.room E.actor E.other = 3 by rw [HT.out]; simp [hs])
                          go_wp2
                          go_ret
                          exact ⟨ret_int HN.out.symm, G8.out.low⟩
                        | false =>
                          have HN := hide (show percL L (b : Int) E.kind E.room E.actor E.other = 7 by rw [HT.out]; simp [hs, HO.out])
                          go_wp2
                          go_ret
                          exact ⟨ret_int HN.out.symm, G8.out.low⟩
                      · have HN := hide (show percL L (b : Int) E.kind E.room E.actor E.other = 3 by rw [HT.out, amg_no (by omega)]; simp)
                        have d6 : decide (E.other < 6) = false := decide_eq_false ho6
                        have d6' : 6 ≤ E.other := by omega
                        clear ho6
                        go_wp2
                        go_ret
                        exact ⟨ret_int HN.out.symm, G3.out.low⟩
                    · have HN := hide (show percL L (b : Int) E.kind E.room E.actor E.other = 3 by rw [HT.out, amg_no (by omega)]; simp)
                      go_wp2
                      go_ret
                      exact ⟨ret_int HN.out.symm, G3.out.low⟩
        · have er : (L.room b != E.room) = true := by simp [hr]
          have HN := hide (perc_told (other := E.other) (kind := E.kind) (room := E.room) HA.out HNE.out (.inr (by rw [Int.toNat_natCast]; exact hr)))
          clear hr
          go_enter Tryd.func80, Tryd.ntmps80
          go_wp2_with (refine wl_land (.tmp 3) rfl rfl _ L rfl P0.out.cod ?_)
          refine (about_any L (b : Int) _).mono ?_
          rintro e w1 ⟨rfl, hb⟩
          have G1 := hide (P0.out.call hb)
          rw [HA.out]
          have k0 := G1.out.cev.kind
          have k1 := G1.out.cev.room
          have k2 := G1.out.cev.actor
          have kr : w1.cell? ⟨w.heap.size, 129 + b * 6 + 3, none⟩ = some (.int .i64 (L.room b)) := G1.out.cod.being b 3 (by omega) (by omega)
          clear hb
          go_wp2_with fail
          go_region
          all_goals go_wp2
          all_goals go_ret
          all_goals exact ⟨ret_int HN.out.symm, G1.out.drew.low⟩

set_option maxRecDepth 100000 in
set_option maxHeartbeats 1000000 in
theorem everybody_any (L : Ld) (E : Ev) (w : World) :
    Calls Tryd.prog 45 #[.agg L.cells, .agg E.cells] w fun e w' => e = .returned (.agg (allE L E).cells) ∧ Below w.heap.size w w' := by
  go_enter Tryd.func45, Tryd.ntmps45
  go_wp2
  go_loopw [6] (fun c wr => ∃ k : Nat, k ≤ 6 ∧ c = .int .i64 k ∧ AvRel L E k w wr) (fun c _ => 6 - (intOf c).toNat)
  case atStart => exact ⟨0, by omega, rfl, av_start L E w _ rfl⟩
  case round =>
    obtain ⟨k, hle, rfl, R⟩ := hrel
    have HR := hide R
    clear R
    by_cases hk : k < 6
    · have C := hide (fun W => perceived_any L (k : Int) (allK L E k) W)
      go_wp2_with (first | (refine wl_land (.tmp 2) rfl rfl _ L rfl HR.out.pv.cod ?_) | (refine wl_event (.tmp 3) rfl rfl _ (allK L E k) rfl HR.out.pv.cev ?_))
      refine (C.out _).mono ?_
      rintro e w1 ⟨rfl, hb⟩
      have R1 := hide (HR.out.call hb)
      have hc := R1.out.pv.cev.by' k hk
      have hf := R1.out.pv.cev.frozen (10 + k)
      clear hb C
      have N := hide (R1.out.put hk)
      have hp : Hid (percL L (k : Int) (allK L E k).kind (allK L E k).room (allK L E k).actor (allK L E k).other = percL L (k : Int) E.kind E.room E.actor E.other) := rfl
      rw [hp.out]
      go_wp2
      go_roundw
      case rel => exact ⟨k + 1, by omega, by go_num, N.out⟩
      case measure => simp [intOf]; omega
    · have hk6 : k = 6 := by omega
      subst hk6
      have HC := hide (HR.out.pv.cev.same (allK_all L E))
      obtain ⟨z, hz, hr⟩ := HR.out.res
      have HZ := hide hr
      have HS := hide hz
      clear hz hr
      go_wp2_with (first | (refine wl_event (.tmp 3) rfl rfl _ (allE L E) rfl HC.out ?_) | (refine wl_row 52 (.tmp 4) (.tmp 17) rfl rfl (w.heap.size + 2) (allE L E).cells rfl rfl 52 z HZ.out ?s1 ?s2 (Ev.one _) ?_))
      case s1 => rw [Ev.size]; exact Tryd.sizeEvent
      case s2 => rw [Ev.size]; exact HS.out
      refine bodyPost_ret (v := .agg (allE L E).cells) (results_cell_row rfl _ _ (w.heap.size + 2) 52 (allE L E).cells (0, 0) _ rfl (setRow_heap wr (w.heap.size + 2) _ _ _ _ HZ.out) Tryd.underlying52 rfl (by rw [Ev.size]; exact Tryd.sizeEvent)) rfl ⟨rfl, below_setRow HR.out.pv.low (by omega) _⟩
end Go.Proofs.YtaifjndkgfffpaaDoor
