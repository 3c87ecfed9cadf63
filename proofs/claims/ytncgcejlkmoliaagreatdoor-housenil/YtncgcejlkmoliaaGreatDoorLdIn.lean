/-
  Inside, and whether a way comes to no end: contracts.
-/
import Derived.Test.YtncgcejlkmoliaaGreatDoorLdWin
namespace Go.Proofs.YtncgcejlkmoliaaGreatDoor
open Go.RowKit
set_option linter.unusedVariables false

set_option maxRecDepth 100000 in
set_option maxHeartbeats 400000 in
theorem inside_any (L : Ld) (i box : Int) (w : World) :
    Calls Tryz.prog 198 #[.agg L.cells, .int .i64 i, .int .i64 box] w fun e w' => e = .returned (.bool (decide (box ∈ wayL L i))) ∧ Below w.heap.size w w' := by
  go_enter Tryz.func198, Tryz.ntmps198
  go_wp2_with (refine wl_land (.tmp 3) rfl rfl _ L rfl (cod_new w L) ?_)
  refine (way_any L i _).mono ?_
  rintro e w1 ⟨v, rfl, hn, hb⟩
  have hb' : Below w.heap.size w w1 := ((Below.refl _ _).alloc (Nat.le_refl _) _).trans (hb.mono (by simp))
  clear hb
  go_wp2_with fail
  refine (contains_any v _ box _ hn).mono ?_
  rintro e w2 ⟨rfl, hw⟩
  rw [hw]
  clear hw w2
  go_wp2
  go_ret
  exact ⟨rfl, hb'⟩

set_option maxRecDepth 100000 in
set_option maxHeartbeats 400000 in
theorem endless_any (L : Ld) (i : Int) (w : World) (hi : amg i 9 = true) :
    Calls Tryz.prog 65 #[.agg L.cells, .int .i64 i] w fun e w' => e = .returned (.bool (L.wh (lastW L i) == 2)) ∧ Below w.heap.size w w' := by
  have hne := way_pos L hi
  have hll := last_lt L hne
  have hlen := way_len L i
  have hpos : 0 < (wayL L i).length := List.length_pos_iff.2 hne
  have HL := hide hll
  have HP := hide hpos
  have HN := hide hlen
  clear hi hne hll hlen hpos
  go_enter Tryz.func65, Tryz.ntmps65
  go_wp2_with (refine wl_land (.tmp 2) rfl rfl _ L rfl (cod_new w L) ?_)
  refine (way_any L i _).mono ?_
  rintro e w1 ⟨v, rfl, hn, hb⟩
  have hb' : Below w.heap.size w w1 := ((Below.refl _ _).alloc (Nat.le_refl _) _).trans (hb.mono (by simp))
  have hc : Cod w1 w.heap.size L := (cod_new w L).behind hb (Nat.le_refl _)
  obtain ⟨b, off, cap, rfl, _, _, hcell⟩ := hn.some HP.out
  have c0 := hcell ((wayL L i).length - 1) (by have := HP.out; omega)
  rw [HL.out.2] at c0
  have hk := HL.out.1
  have c2 : w1.cell? ⟨w.heap.size, 84 + lastW L i * 5 + 2, none⟩ = some (.int .i64 (L.wh (lastW L i))) := hc.thing _ 2 hk (by omega)
  have h0 := HP.out
  have h9 := HN.out
  generalize (wayL L i).length = n at *
  generalize hkk : lastW L i = k at *
  have HK := hide hkk
  clear hkk
  obtain ⟨m, rfl⟩ : ∃ m, n = m + 1 := ⟨n - 1, by omega⟩
  simp only [Nat.add_sub_cancel] at c0
  clear hcell hn hb HL HP HN hc
  go_wp2
  go_ret
  exact ⟨ret_bool (by rw [HK.out]), hb'⟩
end Go.Proofs.YtncgcejlkmoliaaGreatDoor
