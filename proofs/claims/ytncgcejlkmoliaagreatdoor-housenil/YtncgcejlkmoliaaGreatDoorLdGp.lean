/-
  Whether there is what a thing is in or on: its contract.
-/
import Derived.Test.YtncgcejlkmoliaaGreatDoorLdGd
namespace Go.Proofs.YtncgcejlkmoliaaGreatDoor
open Go.RowKit
set_option linter.unusedVariables false

def gplace (L : Ld) (wh loc : Int) : Bool :=
  if wh = 0 then amg loc 6 else if wh = 1 then (amg loc 6 && L.here loc.toNat) else (wh == 2 && amg loc 9 && (L.kind loc.toNat == 3))

theorem below_box2 (w : World) (o o' : Obj) : Below w.heap.size w ((w.alloc o).alloc o') := ((Below.refl _ _).alloc (Nat.le_refl _) _).alloc (by simp) _

set_option maxRecDepth 100000 in
set_option maxHeartbeats 1000000 in
theorem place_any (L : Ld) (t : ByteArray) (kind wh loc : Int) (on : Bool) (w : World) :
    Calls Tryz.prog 64 #[.agg L.cells, .agg #[.string t, .int .i64 kind, .int .i64 wh, .int .i64 loc, .bool on]] w fun e w' => e = .returned (.bool (gplace L wh loc)) ∧ Below w.heap.size w w' := by
  have HC := hide ((cod_new w L).alloc (.cells #[.string t, .int .i64 kind, .int .i64 wh, .int .i64 loc, .bool on] 37))
  by_cases h0 : wh = 0
  · have b0 : (wh == 0) = true := by simp [h0]
    have HG := hide (show gplace L wh loc = amg loc 6 by unfold gplace; rw [if_pos h0])
    clear h0
    go_enter Tryz.func64, Tryz.ntmps64
    go_wp2_with fail
    refine (among_any loc 6 _).mono ?_
    rintro r w1 ⟨rfl, hw⟩
    rw [hw]
    clear hw w1
    go_wp2
    go_ret
    exact ⟨ret_bool HG.out.symm, below_box2 _ _ _⟩
  · have b0 : (wh == 0) = false := by simp [h0]
    by_cases h1 : wh = 1
    · have b1 : (wh == 1) = true := by simp [h1]
      have HG := hide (show gplace L wh loc = (amg loc 6 && L.here loc.toNat) by unfold gplace; rw [if_neg h0, if_pos h1])
      clear h0 h1
      go_enter Tryz.func64, Tryz.ntmps64
      go_wp2_with fail
      refine (among_any loc 6 _).mono ?_
      rintro r w1 ⟨rfl, hw⟩
      rw [hw]
      clear hw w1
      cases ha : amg loc 6 with
      | false =>
        have HA := hide ha
        clear ha
        go_wp2
        go_ret
        exact ⟨ret_bool (by rw [HG.out, HA.out]; rfl), below_box2 _ _ _⟩
      | true =>
        have HA := hide ha
        obtain ⟨g0, g6⟩ := amg_pos ha
        clear ha
        obtain ⟨x, rfl⟩ := Int.eq_ofNat_of_zero_le g0
        have cr := HC.out.being x 1 (by omega) (by omega)
        simp only [Ld.beingCell] at cr
        go_wp2
        go_ret
        exact ⟨ret_bool (by rw [HG.out, HA.out]; rfl), below_box2 _ _ _⟩
    · have b1 : (wh == 1) = false := by simp [h1]
      by_cases h2 : wh = 2
      · have b2 : (wh == 2) = true := by simp [h2]
        have HG := hide (show gplace L wh loc = (amg loc 9 && (L.kind loc.toNat == 3)) by unfold gplace; rw [if_neg h0, if_neg h1, b2]; rfl)
        clear h0 h1 h2
        go_enter Tryz.func64, Tryz.ntmps64
        go_wp2_with fail
        refine (among_any loc 9 _).mono ?_
        rintro r w1 ⟨rfl, hw⟩
        rw [hw]
        clear hw w1
        cases ha : amg loc 9 with
        | false =>
          have HA := hide ha
          clear ha
          go_wp2
          go_ret
          exact ⟨ret_bool (by rw [HG.out, HA.out]; rfl), below_box2 _ _ _⟩
        | true =>
          have HA := hide ha
          obtain ⟨g0, g6⟩ := amg_pos ha
          clear ha
          obtain ⟨x, rfl⟩ := Int.eq_ofNat_of_zero_le g0
          have cr := HC.out.thing x 1 (by omega) (by omega)
          simp only [Ld.thingCell] at cr
          go_wp2
          go_ret
          exact ⟨ret_bool (by rw [HG.out, HA.out]; rfl), below_box2 _ _ _⟩
      · have b2 : (wh == 2) = false := by simp [h2]
        have HG := hide (show gplace L wh loc = false by unfold gplace; rw [if_neg h0, if_neg h1, b2]; rfl)
        clear h0 h1 h2
        go_enter Tryz.func64, Tryz.ntmps64
        go_wp2
        go_ret
        exact ⟨ret_bool HG.out.symm, below_box2 _ _ _⟩
end Go.Proofs.YtncgcejlkmoliaaGreatDoor
