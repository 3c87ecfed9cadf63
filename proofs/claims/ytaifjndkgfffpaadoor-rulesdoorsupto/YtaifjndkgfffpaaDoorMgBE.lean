/-
  Whether there is what a thing is in or on: its contract.
-/
import Derived.Test.YtaifjndkgfffpaaDoorLdGd
import Derived.Test.YtaifjndkgfffpaaDoorMgAF
namespace Go.Proofs.YtaifjndkgfffpaaDoor
open Go.RowKit
set_option linter.unusedVariables false

def gplace (L : Ld) (wh loc : Int) : Bool :=
  if wh = 0 then amg loc 6 else if wh = 1 then (amg loc 6 && L.here loc.toNat) else (wh == 2 && amg loc 9 && (L.kind loc.toNat == 3))

theorem below_box2 (w : World) (o o' : Obj) : Below w.heap.size w ((w.alloc o).alloc o') := ((Below.refl _ _).alloc (Nat.le_refl _) _).alloc (by simp) _

set_option maxRecDepth 100000 in
set_option maxHeartbeats 1000000 in
theorem place_any (L : Ld) (t : ByteArray) (kind wh loc : Int) (on : Bool) (w : World) :
    Calls Tryd.prog 36 #[.agg L.cells, .agg #[.string t, .int .i64 kind, .int .i64 wh, .int .i64 loc, .bool on]] w fun e w' => e = .returned (.bool (gplace L wh loc)) ∧ Below w.heap.size w w' := by
  have HC := hide ((cod_new w L).alloc (.cells #[.string t, .int .i64 kind, .int .i64 wh, .int .i64 loc, .bool on] 28))
  by_cases h0 : wh = 0
  · have b0 : (wh == 0) = true := by simp [h0]
    have HG := hide (show gplace L wh loc = amg loc 6 by unfold gplace; rw [if_pos h0])
    clear h0
    go_enter Tryd.func36, Tryd.ntmps36
    go_wp2_with fail
    refine (among_any loc 6 _).mono ?_
    rintro r w1 ⟨rfl, hw⟩
    rw [hw]
    clear hw w1
    go_wp2
    go_ret
    exact ⟨ret_bool HG.out.symm, below_box2 _ _ _⟩
  · have b0 : (wh == 0) = false := by simp [h0]
    by_cases h1 : wh = 1
    · have b1 : (wh == 1) = true := by simp [h1]
      have HG := hide (show gplace L wh loc = (amg loc 6 && L.here loc.toNat) by unfold gplace; rw [if_neg h0, if_pos h1])
      clear h0 h1
      go_enter Tryd.func36, Tryd.ntmps36
      go_wp2_with fail
      refine (among_any loc 6 _).mono ?_
      rintro r w1 ⟨rfl, hw⟩
      rw [hw]
      clear hw w1
      cases ha : amg loc 6 with
      | false =>
        have HA := hide ha
        clear ha
        go_wp2
        go_ret
        exact ⟨ret_bool (by rw [HG.out, HA.out]; rfl), below_box2 _ _ _⟩
      | true =>
        have HA := hide ha
        obtain ⟨g0, g6⟩ := amg_pos ha
        clear ha
        obtain ⟨x, rfl⟩ := Int.eq_ofNat_of_zero_le g0
        have cr := HC.out.being x 1 (by omega) (by omega)
        simp only [Ld.beingCell] at cr
        go_wp2
        go_ret
        exact ⟨ret_bool (by rw [HG.out, HA.out]; rfl), below_box2 _ _ _⟩
    · have b1 : (wh == 1) = false := by simp [h1]
      by_cases h2 : wh = 2
      · have b2 : (wh == 2) = true := by simp [h2]
        have HG := hide (show gplace L wh loc = (amg loc 9 && (L.kind loc.toNat == 3)) by unfold gplace; rw [if_neg h0, if_neg h1, b2]; rfl)
        clear h0 h1 h2
        go_enter Tryd.func36, Tryd.ntmps36
        go_wp2_with fail
        refine (among_any loc 9 _).mono ?_
        rintro r w1 ⟨rfl, hw⟩
        rw [hw]
        clear hw w1
        cases ha : amg loc 9 with
        | false =>
          have HA := hide ha
          clear ha
          go_wp2
          go_ret
          exact ⟨ret_bool (by rw [HG.out, HA.out]; rfl), below_box2 _ _ _⟩
        | true =>
          have HA := hide ha
          obtain ⟨g0, g6⟩ := amg_pos ha
          clear ha
          obtain ⟨x, rfl⟩ := Int.eq_ofNat_of_zero_le g0
          have cr := HC.out.thing x 1 (by omega) (by omega)
          simp only [Ld.thingCell] at cr
          go_wp2
          go_ret
          exact ⟨ret_bool (by rw [HG.out, HA.out]; rfl), below_box2 _ _ _⟩
      · have b2 : (wh == 2) = false := by simp [h2]
        have HG := hide (show gplace L wh loc = false by unfold gplace; rw [if_neg h0, if_neg h1, b2]; rfl)
        clear h0 h1 h2
        go_enter Tryd.func36, Tryd.ntmps36
        go_wp2
        go_ret
        exact ⟨ret_bool HG.out.symm, below_box2 _ _ _⟩
end Go.Proofs.YtaifjndkgfffpaaDoor
/-
  Inside, and whether a way comes to no end: contracts.
-/
namespace Go.Proofs.YtaifjndkgfffpaaDoor
open Go.RowKit
set_option linter.unusedVariables false

set_option maxRecDepth 100000 in
set_option maxHeartbeats 400000 in
theorem inside_any (L : Ld) (i box : Int) (w : World) :
    Calls Tryd.prog 88 #[.agg L.cells, .int .i64 i, .int .i64 box] w fun e w' => e = .returned (.bool (decide (box ∈ wayL L i))) ∧ Below w.heap.size w w' := by
  go_enter Tryd.func88, Tryd.ntmps88
  go_wp2_with (refine wl_land (.tmp 3) rfl rfl _ L rfl (cod_new w L) ?_)
  refine (way_any L i _).mono ?_
  rintro e w1 ⟨v, rfl, hn, hb⟩
  have hb' : Below w.heap.size w w1 := ((Below.refl _ _).alloc (Nat.le_refl _) _).trans (hb.mono (by simp))
  clear hb
  go_wp2_with fail
  refine (contains_any v _ box _ hn).mono ?_
  rintro e w2 ⟨rfl, hw⟩
  rw [hw]
  clear hw w2
  go_wp2
  go_ret
  exact ⟨rfl, hb'⟩

set_option maxRecDepth 100000 in
set_option maxHeartbeats 400000 in
theorem endless_any (L : Ld) (i : Int) (w : World) (hi : amg i 9 = true) :
    Calls Tryd.prog 37 #[.agg L.cells, .int .i64 i] w fun e w' => e = .returned (.bool (L.wh (lastW L i) == 2)) ∧ Below w.heap.size w w' := by
  have hne := way_pos L hi
  have hll := last_lt L hne
  have hlen := way_len L i
  have hpos : 0 < (wayL L i).length := List.length_pos_iff.2 hne
  have HL := hide hll
  have HP := hide hpos
  have HN := hide hlen
  clear hi hne hll hlen hpos
  go_enter Tryd.func37, Tryd.ntmps37
  go_wp2_with (refine wl_land (.tmp 2) rfl rfl _ L rfl (cod_new w L) ?_)
  refine (way_any L i _).mono ?_
  rintro e w1 ⟨v, rfl, hn, hb⟩
  have hb' : Below w.heap.size w w1 := ((Below.refl _ _).alloc (Nat.le_refl _) _).trans (hb.mono (by simp))
  have hc : Cod w1 w.heap.size L := (cod_new w L).behind hb (Nat.le_refl _)
  obtain ⟨b, off, cap, rfl, _, _, hcell⟩ := hn.some HP.out
  have c0 := hcell ((wayL L i).length - 1) (by have := HP.out; omega)
  rw [HL.out.2] at c0
  have hk := HL.out.1
  have c2 : w1.cell? ⟨w.heap.size, 84 + lastW L i * 5 + 2, none⟩ = some (.int .i64 (L.wh (lastW L i))) := hc.thing _ 2 hk (by omega)
  have h0 := HP.out
  have h9 := HN.out
  generalize (wayL L i).length = n at *
  generalize hkk : lastW L i = k at *
  have HK := hide hkk
  clear hkk
  obtain ⟨m, rfl⟩ : ∃ m, n = m + 1 := ⟨n - 1, by omega⟩
  simp only [Nat.add_sub_cancel] at c0
  clear hcell hn hb HL HP HN hc
  go_wp2
  go_ret
  exact ⟨ret_bool (by rw [HK.out]), hb'⟩
end Go.Proofs.YtaifjndkgfffpaaDoor
