/-
  Perceives: its contract.
-/
import Derived.Test.YtaifjndkgfffpaaDoorMgAK
namespace Go.Proofs.YtaifjndkgfffpaaDoor
open Go.RowKit
set_option linter.unusedVariables false

/-- The land and the event lie in their blocks, nothing older was touched. -/
structure PvRel (L : Ld) (E : Ev) (w wr : World) : Prop where
  cod : Cod wr w.heap.size L
  cev : Cev wr (w.heap.size + 1) E
  low : Below w.heap.size w wr
theorem PvRel.call {L : Ld} {E : Ev} {w wr w1 : World} (h : PvRel L E w wr) (hb : Below wr.heap.size wr w1) : PvRel L E w w1 := ⟨h.cod.behind hb (Nat.le_refl _), h.cev.behind hb (Nat.le_refl _), h.low.trans (hb.mono h.low.size)⟩
theorem PvRel.drew {L : Ld} {E : Ev} {w wr : World} (h : PvRel L E w wr) : PvRel L E w wr.drew := ⟨h.cod, h.cev, ⟨h.low.os, h.low.tape, h.low.output, h.low.size, h.low.block⟩⟩
theorem PvRel.box {L : Ld} {E : Ev} {w wr : World} (h : PvRel L E w wr) (o : Obj) : PvRel L E w (wr.alloc o) := ⟨h.cod.alloc o, h.cev.alloc o, h.low.alloc h.low.size o⟩
theorem pv_start (L : Ld) (E : Ev) (w : World) : PvRel L E w ((w.alloc (.cells L.cells 34)).alloc (.cells E.cells 52)) := by
  refine ⟨(cod_new w L).alloc _, ?_, ((Below.refl _ _).alloc (Nat.le_refl _) _).alloc (by simp) _⟩
  have := cev_new (w.alloc (.cells L.cells 34)) E
  rw [World.size_alloc] at this; exact this

section
variable {L : Ld} {b kind room actor other : Int}
theorem perc_gone (h : abtL L b = false) : percL L b kind room actor other = 0 := by unfold percL; rw [if_pos h]
theorem perc_told (h1 : abtL L b = true) (hn : b ≠ actor) (h : kind = 16 ∨ L.room b.toNat ≠ room) : percL L b kind room actor other = 0 := by
  unfold percL; rw [if_neg (by simp [h1]), if_pos ⟨hn, h⟩]
theorem perc_quiet (h1 : abtL L b = true) (hn : b ≠ actor) (h2 : ¬ (kind = 16 ∨ L.room b.toNat ≠ room)) (hs : seesL L b actor = false) (hl : loud kind = false) : percL L b kind room actor other = 0 := by
  unfold percL; rw [if_neg (by simp [h1]), if_neg (fun h => h2 h.2), if_pos ⟨hn, hs, hl⟩]
theorem perc_own (h1 : abtL L b = true) (hn : b = actor) : percL L b kind room actor other = 1 + (if amg other 6 = true ∧ seesL L b other = false then 4 else 0) := by
  unfold percL; rw [if_neg (by simp [h1]), if_neg (fun h => h.1 hn), if_neg (fun h => h.1 hn), if_neg (fun h => h.1 hn)]
theorem perc_seen (h1 : abtL L b = true) (hn : b ≠ actor) (h2 : ¬ (kind = 16 ∨ L.room b.toNat ≠ room)) (hs : seesL L b actor = true) : percL L b kind room actor other = 1 + (if amg other 6 = true ∧ seesL L b other = false then 4 else 0) := by
  unfold percL; rw [if_neg (by simp [h1]), if_neg (fun h => h2 h.2), if_neg (fun h => by rw [hs] at h; simp at h), if_neg (fun h => by rw [hs] at h; simp at h)]
theorem perc_heard (h1 : abtL L b = true) (hn : b ≠ actor) (h2 : ¬ (kind = 16 ∨ L.room b.toNat ≠ room)) (hs : seesL L b actor = false) (hl : loud kind = true) : percL L b kind room actor other = 3 + (if amg other 6 = true ∧ seesL L b other = false then 4 else 0) := by
  unfold percL; rw [if_neg (by simp [h1]), if_neg (fun h => h2 h.2), if_neg (fun h => by rw [hl] at h; simp at h), if_pos ⟨hn, hs⟩]
end

set_option maxRecDepth 100000 in
set_option maxHeartbeats 1000000 in
theorem perc_any (L : Ld) (b : Int) (E : Ev) (w : World) :
    Calls Tryd.prog 96 #[.agg L.cells, .int .i64 b, .agg E.cells] w fun e w' => e = .returned (.int .i64 (percL L b E.kind E.room E.actor E.other)) ∧ Below w.heap.size w w' := by
  have P0 := hide (pv_start L E w)
  cases ha : abtL L b with
  | false =>
    have HV := hide (perc_gone (kind := E.kind) (room := E.room) (actor := E.actor) (other := E.other) ha)
    go_enter Tryd.func96, Tryd.ntmps96
    go_wp2_with (refine wl_land (.tmp 3) rfl rfl _ L rfl P0.out.cod ?_)
    refine (shere_any L b _).mono ?_
    rintro e w1 ⟨rfl, hb⟩
    have G1 := hide (P0.out.call hb)
    rw [ha]
    clear hb ha
    go_wp2
    go_ret
    exact ⟨ret_int HV.out.symm, G1.out.low⟩
  | true =>
    have pa : amg b 6 = true := by simp only [abtL, Bool.and_eq_true] at ha; exact ha.1
    obtain ⟨a0, a6⟩ := amg_pos pa
    obtain ⟨b, rfl⟩ := Int.eq_ofNat_of_zero_le a0
    have HA := hide ha
    clear ha pa
    by_cases hn : (b : Int) = E.actor
    · have HT := hide (perc_own (kind := E.kind) (room := E.room) (other := E.other) HA.out hn)
      have e1 : ((b : Int) != E.actor) = false := by simp [hn]
      clear hn
      go_enter Tryd.func96, Tryd.ntmps96
      go_wp2_with (refine wl_land (.tmp 3) rfl rfl _ L rfl P0.out.cod ?_)
      refine (shere_any L (b : Int) _).mono ?_
      rintro e w1 ⟨rfl, hb⟩
      have G1 := hide (P0.out.call hb)
      rw [HA.out]
      have k2 := G1.out.cev.actor
      clear hb
      have k3 := G1.out.cev.othr
      cases ho : amg E.other 6 with
      | false =>
        have HN := hide (show percL L (b : Int) E.kind E.room E.actor E.other = 1 by rw [HT.out]; simp [ho])
        go_wp2_with fail
        refine (sbeing_any E.other _).mono ?_
        rintro e w9 ⟨rfl, hw⟩
        rw [hw, ho]
        clear hw w9 ho
        go_wp2
        go_ret
        exact ⟨ret_int HN.out.symm, G1.out.low⟩
      | true =>
        go_wp2_with fail
        refine (sbeing_any E.other _).mono ?_
        rintro e w9 ⟨rfl, hw⟩
        rw [hw, ho]
        clear hw w9
        have HO := hide ho
        clear ho
        go_wp2_with (refine wl_land (.tmp 3) rfl rfl _ L rfl G1.out.cod ?_)
        refine (sees_any L (b : Int) E.other _).mono ?_
        rintro e w8 ⟨rfl, hb⟩
        have G8 := hide (G1.out.call hb)
        clear hb k3
        cases hs : seesL L (b : Int) E.other with
        | true =>
          have HN := hide (show percL L (b : Int) E.kind E.room E.actor E.other = 1 by rw [HT.out]; simp [hs])
          go_wp2
          go_ret
          exact ⟨ret_int HN.out.symm, G8.out.low⟩
        | false =>
          have HN := hide (show percL L (b : Int) E.kind E.room E.actor E.other = 5 by rw [HT.out]; simp [hs, HO.out])
          have hor := or14
          go_wp2
          go_ret
          exact ⟨ret_int HN.out.symm, G8.out.low⟩
    · have e1 : ((b : Int) != E.actor) = true := by simp [hn]
      have HNE := hide hn
      clear hn
      by_cases h16 : E.kind = 16
      · have HN := hide (perc_told (other := E.other) (room := E.room) HA.out HNE.out (.inl h16))
        have e16 : (E.kind == 16) = true := by simp [h16]
        clear h16
        go_enter Tryd.func96, Tryd.ntmps96
        go_wp2_with (refine wl_land (.tmp 3) rfl rfl _ L rfl P0.out.cod ?_)
        refine (shere_any L (b : Int) _).mono ?_
        rintro e w1 ⟨rfl, hb⟩
        have G1 := hide (P0.out.call hb)
        rw [HA.out]
        have k0 := G1.out.cev.kind
        have k2 := G1.out.cev.actor
        clear hb
        go_wp2_with fail
        go_region
        all_goals go_wp2
        all_goals go_ret
        all_goals exact ⟨ret_int HN.out.symm, G1.out.drew.low⟩
      · have e16 : (E.kind == 16) = false := by simp [h16]
        have H16 := hide h16
        clear h16
        by_cases hr : E.room = L.room b
        · have er : (E.room != L.room b) = false := by simp [hr]
          have H2 := hide (show ¬ (E.kind = 16 ∨ L.room (b : Int).toNat ≠ E.room) by
            rw [Int.toNat_natCast]; intro h; rcases h with h | h
            · exact H16.out h
            · exact h hr.symm)
          clear hr
          go_enter Tryd.func96, Tryd.ntmps96
          go_wp2_with (refine wl_land (.tmp 3) rfl rfl _ L rfl P0.out.cod ?_)
          refine (shere_any L (b : Int) _).mono ?_
          rintro e w1 ⟨rfl, hb⟩
          have G1 := hide (P0.out.call hb)
          rw [HA.out]
          have k0 := G1.out.cev.kind
          have k1 := G1.out.cev.room
          have k2 := G1.out.cev.actor
          have kr : w1.cell? ⟨w.heap.size, 129 + b * 6 + 3, none⟩ = some (.int .i64 (L.room b)) := G1.out.cod.being b 3 (by omega) (by omega)
          clear hb
          go_wp2_with fail
          go_region
          all_goals
            go_wp2_with (refine wl_land (.tmp 3) rfl rfl _ L rfl G1.out.drew.cod ?_)
            refine (sees_any L (b : Int) E.actor _).mono ?_
            rintro e w3 ⟨rfl, hb⟩
            have G3 := hide (G1.out.drew.call hb)
            clear hb k0 k1 k2 kr
            have k0 := G3.out.cev.kind
            cases hs : seesL L (b : Int) E.actor with
            | true =>
              have HT := hide (perc_seen (other := E.other) HA.out HNE.out H2.out hs)
              clear hs
              have k3 := G3.out.cev.othr
              cases ho : amg E.other 6 with
              | false =>
                have HN := hide (show percL L (b : Int) E.kind E.room E.actor E.other = 1 by rw [HT.out]; simp [ho])
                go_wp2_with fail
                refine (sbeing_any E.other _).mono ?_
                rintro e w9 ⟨rfl, hw⟩
                rw [hw, ho]
                clear hw w9 ho
                go_wp2
                go_ret
                exact ⟨ret_int HN.out.symm, G3.out.low⟩
              | true =>
                go_wp2_with fail
                refine (sbeing_any E.other _).mono ?_
                rintro e w9 ⟨rfl, hw⟩
                rw [hw, ho]
                clear hw w9
                have HO := hide ho
                clear ho
                go_wp2_with (refine wl_land (.tmp 3) rfl rfl _ L rfl G3.out.cod ?_)
                refine (sees_any L (b : Int) E.other _).mono ?_
                rintro e w8 ⟨rfl, hb⟩
                have G8 := hide (G3.out.call hb)
                clear hb k3
                cases hs : seesL L (b : Int) E.other with
                | true =>
                  have HN := hide (show percL L (b : Int) E.kind E.room E.actor E.other = 1 by rw [HT.out]; simp [hs])
                  go_wp2
                  go_ret
                  exact ⟨ret_int HN.out.symm, G8.out.low⟩
                | false =>
                  have HN := hide (show percL L (b : Int) E.kind E.room E.actor E.other = 5 by rw [HT.out]; simp [hs, HO.out])
                  have hor := or14
                  go_wp2
                  go_ret
                  exact ⟨ret_int HN.out.symm, G8.out.low⟩
            | false =>
              have HS := hide hs
              clear hs
              go_wp2_with fail
              refine (unseen_any E.kind _).mono ?_
              rintro e w4 ⟨rfl, hw⟩
              rw [hw]
              clear hw w4
              cases hl : loud E.kind with
              | false =>
                have HN := hide (perc_quiet (other := E.other) HA.out HNE.out H2.out HS.out hl)
                go_wp2
                go_ret
                exact ⟨ret_int HN.out.symm, G3.out.low⟩
              | true =>
                have HT := hide (perc_heard (other := E.other) HA.out HNE.out H2.out HS.out hl)
                have hor2 := or12
                clear hl
                have k3 := G3.out.cev.othr
                cases ho : amg E.other 6 with
                | false =>
                  have HN := hide (show percL L (b : Int) E.kind E.room E.actor E.other = 3 by rw [HT.out]; simp [ho])
                  go_wp2_with fail
                  refine (sbeing_any E.other _).mono ?_
                  rintro e w9 ⟨rfl, hw⟩
                  rw [hw, ho]
                  clear hw w9 ho
                  go_wp2
                  go_ret
                  exact ⟨ret_int HN.out.symm, G3.out.low⟩
                | true =>
                  go_wp2_with fail
                  refine (sbeing_any E.other _).mono ?_
                  rintro e w9 ⟨rfl, hw⟩
                  rw [hw, ho]
                  clear hw w9
                  have HO := hide ho
                  clear ho
                  go_wp2_with (refine wl_land (.tmp 3) rfl rfl _ L rfl G3.out.cod ?_)
                  refine (sees_any L (b : Int) E.other _).mono ?_
                  rintro e w8 ⟨rfl, hb⟩
                  have G8 := hide (G3.out.call hb)
                  clear hb k3
                  cases hs : seesL L (b : Int) E.other with
                  | true =>
                    have HN := hide (show percL L (b : Int) E.kind E.room E.actor E.other = 3 by rw [HT.out]; simp [hs])
                    go_wp2
                    go_ret
                    exact ⟨ret_int HN.out.symm, G8.out.low⟩
                  | false =>
                    have HN := hide (show percL L (b : Int) E.kind E.room E.actor E.other = 7 by rw [HT.out]; simp [hs, HO.out])
                    have hor := or34
                    go_wp2
                    go_ret
                    exact ⟨ret_int HN.out.symm, G8.out.low⟩
        · have er : (E.room != L.room b) = true := by simp [hr]
          have HN := hide (perc_told (other := E.other) (kind := E.kind) (room := E.room) HA.out HNE.out (.inr (by rw [Int.toNat_natCast]; exact fun h => hr h.symm)))
          clear hr
          go_enter Tryd.func96, Tryd.ntmps96
          go_wp2_with (refine wl_land (.tmp 3) rfl rfl _ L rfl P0.out.cod ?_)
          refine (shere_any L (b : Int) _).mono ?_
          rintro e w1 ⟨rfl, hb⟩
          have G1 := hide (P0.out.call hb)
          rw [HA.out]
          have k0 := G1.out.cev.kind
          have k1 := G1.out.cev.room
          have k2 := G1.out.cev.actor
          have kr : w1.cell? ⟨w.heap.size, 129 + b * 6 + 3, none⟩ = some (.int .i64 (L.room b)) := G1.out.cod.being b 3 (by omega) (by omega)
          clear hb
          go_wp2_with fail
          go_region
          all_goals go_wp2
          all_goals go_ret
          all_goals exact ⟨ret_int HN.out.symm, G1.out.drew.low⟩
end Go.Proofs.YtaifjndkgfffpaaDoor
