/-
  A thing is moved; what lies about is taken: contracts.
-/
import Derived.Test.YtjkbmgjbmdcciafDoorRuGet
namespace Go.Proofs.YtjkbmgjbmdcciafDoor
open Go.RowKit
set_option linter.unusedVariables false

theorem Stp.fresh {g o k n : Nat} {w W : World} {x : Value} (h : Stp g o w W) (hk : w.heap.size ≤ k) (hg : g < w.heap.size) : Stp g o w (W.setCell ⟨k, n, none⟩ x) := by
  refine ⟨h.os, h.tape, h.output, by simp [World.setCell]; exact h.size, fun j hj h1 h2 => ?_, ?_⟩
  · rw [Below.heap_setCell _ _ _ _ (by simp; omega)]; exact h.block j hj h1 h2
  · rw [show rowB (W.setCell ⟨k, n, none⟩ x) g o = rowB W g o from rowB_same (Below.heap_setCell _ _ _ _ (by simp; omega))]
    exact h.row
theorem Sn.other {T : TypeId} {pre : List Value} {w0 w : World} {L : Ld} {Es : List Ev} (h : Sn T pre w0 L Es w) {k n : Nat} {x : Value} (hk : Kept w0.heap.size (165 + pre.length) w k) (hlt : w0.heap.size ≤ k) : Sn T pre w0 L Es (w.setCell ⟨k, n, none⟩ x) := by
  obtain ⟨v, hv, ho⟩ := h.ex
  have hc : w.cell? ⟨w0.heap.size, 165 + pre.length, none⟩ = some v := by rw [cell_of_row w _ _ _ _ _ hv, more_row]
  have hof : v.ownBlock ≠ some k := by
    have := hk.off
    simp only [rowB, hc] at this
    exact this
  exact ⟨⟨v, by rw [Below.heap_setCell _ _ _ _ (by simpa using hk.ne.symm)]; exact hv, ownsRow_setCell_other ho (by simpa using hof) x⟩, h.low.setCell (by simpa using hlt) _⟩
theorem Cev.putThing {w : World} {b : Nat} {E : Ev} (h : Cev w b E) (x : ByteArray) : Cev (w.setCell ⟨b, 8, none⟩ (.string x)) b { E with thing := x } := by
  unfold Cev at h ⊢
  rw [setCell_eq_setRow w b 8 _ _ _ _ h, setRow_heap w b _ _ _ _ h]; rfl

def moveL (L : Ld) (i : Nat) (wh loc : Int) : Ld := (L.setWh i wh).setLoc i loc

set_option maxRecDepth 100000 in
set_option maxHeartbeats 2000000 in
theorem rmove_any {w0 : World} {L : Ld} {Es : List Ev} {w : World} (hS : Sn 54 [] w0 L Es w) (i : Nat) (hi : i < 9) (wh loc : Int) (E : Ev) (hlen : Es.length ≤ 1000000) :
    Calls Tryd.prog 56 #[.pointer (some ⟨w0.heap.size, 0, none⟩), .int .i64 (i : Int), .int .i64 wh, .int .i64 loc, .agg E.cells] w fun e w' => e = .returned (.tuple #[]) ∧ Sn 54 [] w0 (moveL L i wh loc) (Es ++ [allE (moveL L i wh loc) { E with thing := L.tname i }]) w' ∧ Stp w0.heap.size 165 w w' := by
  have hii : (i : Int) < 9 := by omega
  have hl := hS.lt
  have hb := below_box w (.cells E.cells 43)
  have K0 := hS.kept hb (Nat.le_refl _) (by simp)
  have X0 := hS.alloc (.cells E.cells 43)
  have C0 := cev_new w E
  have T0 := Stp.below (o := 165) hb hl
  clear hS hb
  go_enter Tryd.func56, Tryd.ntmps56
  go_upto_region 1 with fail
  generalize w.alloc (.cells E.cells 43) = wa at *
  generalize hkk : w.heap.size = k at *
  have c0 := X0.thing i 0 hi (by omega)
  have c2 := X0.thing i 2 hi (by omega)
  have c3 := X0.thing i 3 hi (by omega)
  have f2 := X0.soft (84 + i * 5 + 2)
  have f3 := X0.soft (84 + i * 5 + 3)
  simp only [Nat.add_zero, Ld.thingCell] at c0 c2 c3
  have X1 := X0.set (by omega) (L.up_wh i hi wh)
  have X2 := X1.set (by omega) ((L.setWh i wh).up_loc i hi loc)
  have Y1 : Stp w0.heap.size 165 wa (wa.setCell ⟨w0.heap.size, 84 + i * 5 + 2, none⟩ (.int .i64 wh)) := Stp.put (by omega)
  have Y2 : Stp w0.heap.size 165 (wa.setCell ⟨w0.heap.size, 84 + i * 5 + 2, none⟩ (.int .i64 wh)) ((wa.setCell ⟨w0.heap.size, 84 + i * 5 + 2, none⟩ (.int .i64 wh)).setCell ⟨w0.heap.size, 84 + i * 5 + 3, none⟩ (.int .i64 loc)) := Stp.put (by omega)
  have K2 := (Y2.kept (Y1.kept K0).1).1
  have X3 := hide (X2.other (n := 8) (x := .string (L.tname i)) K2 (by omega))
  have T3 := hide ((T0.trans (Y1.trans Y2)).fresh (k := k) (n := 8) (x := .string (L.tname i)) (by omega) (by omega))
  have C2 := (C0.other (c := w0.heap.size) (by omega) (84 + i * 5 + 2) (.int .i64 wh)).other (c := w0.heap.size) (by omega) (84 + i * 5 + 3) (.int .i64 loc)
  have E3 := hide (C2.putThing (L.tname i))
  have k8 := C0.thing
  have kf := C0.frozen 8
  have hne : k ≠ w0.heap.size := by omega
  have hne2 : w0.heap.size ≠ k := by omega
  clear K0 X0 X1 X2 Y1 Y2 K2 C0 C2 T0
  go_wp2_with (refine wl_event (.tmp 9) rfl rfl _ { E with thing := L.tname i } rfl E3.out ?_)
  refine (happens_any (L := moveL L i wh loc) X3.out { E with thing := L.tname i } hlen).mono ?_
  rintro e w2 ⟨rfl, S2, T2⟩
  have A := hide S2
  have B := hide (T3.out.trans T2)
  clear S2 T2 X3 T3
  go_wp2
  go_end0
  exact ⟨rfl, A.out, B.out⟩
end Go.Proofs.YtjkbmgjbmdcciafDoor
