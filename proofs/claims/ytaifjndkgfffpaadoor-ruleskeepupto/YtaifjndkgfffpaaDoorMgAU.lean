/-
  A thing is moved; what lies about is taken: contracts.
-/
import Derived.Test.YtaifjndkgfffpaaDoorRuGet
namespace Go.Proofs.YtaifjndkgfffpaaDoor
open Go.RowKit
set_option linter.unusedVariables false

theorem Stp.fresh {g o k n : Nat} {w W : World} {x : Value} (h : Stp g o w W) (hk : w.heap.size ≤ k) (hg : g < w.heap.size) : Stp g o w (W.setCell ⟨k, n, none⟩ x) := by
  refine ⟨h.os, h.tape, h.output, by simp [World.setCell]; exact h.size, fun j hj h1 h2 => ?_, ?_⟩
  · rw [Below.heap_setCell _ _ _ _ (by simp; omega)]; exact h.block j hj h1 h2
  · rw [show rowB (W.setCell ⟨k, n, none⟩ x) g o = rowB W g o from rowB_same (Below.heap_setCell _ _ _ _ (by simp; omega))]
    exact h.row
theorem Sn.other {T : TypeId} {pre : List Value} {w0 w : World} {L : Ld} {Es : List Ev} (h : Sn T pre w0 L Es w) {k n : Nat} {x : Value} (hk : Kept w0.heap.size (165 + pre.length) w k) (hlt : w0.heap.size ≤ k) : Sn T pre w0 L Es (w.setCell ⟨k, n, none⟩ x) := by
  obtain ⟨v, hv, ho⟩ := h.ex
  have hc : w.cell? ⟨w0.heap.size, 165 + pre.length, none⟩ = some v := by rw [cell_of_row w _ _ _ _ _ hv, more_row]
  have hof : v.ownBlock ≠ some k := by
    have := hk.off
    simp only [rowB, hc] at this
    exact this
  exact ⟨⟨v, by rw [Below.heap_setCell _ _ _ _ (by simpa using hk.ne.symm)]; exact hv, ownsRow_setCell_other ho (by simpa using hof) x⟩, h.low.setCell (by simpa using hlt) _⟩
theorem Cev.putThing {w : World} {b : Nat} {E : Ev} (h : Cev w b E) (x : ByteArray) : Cev (w.setCell ⟨b, 8, none⟩ (.string x)) b { E with thing := x } := by
  unfold Cev at h ⊢
  rw [setCell_eq_setRow w b 8 _ _ _ _ h, setRow_heap w b _ _ _ _ h]; rfl

def moveL (L : Ld) (i : Nat) (wh loc : Int) : Ld := (L.setWh i wh).setLoc i loc

set_option maxRecDepth 100000 in
set_option maxHeartbeats 2000000 in
theorem rmove_any {w0 : World} {L : Ld} {Es : List Ev} {w : World} (hS : Sn 62 [] w0 L Es w) (i : Nat) (hi : i < 9) (wh loc : Int) (E : Ev) (hlen : Es.length ≤ 1000000) :
    Calls Tryd.prog 87 #[.pointer (some ⟨w0.heap.size, 0, none⟩), .int .i64 (i : Int), .int .i64 wh, .int .i64 loc, .agg E.cells] w fun e w' => e = .returned (.tuple #[]) ∧ Sn 62 [] w0 (moveL L i wh loc) (Es ++ [allE (moveL L i wh loc) { E with thing := L.tname i }]) w' ∧ Stp w0.heap.size 165 w w' := by
  have hii : (i : Int) < 9 := by omega
  have hl := hS.lt
  have hb := below_box w (.cells E.cells 52)
  have K0 := hS.kept hb (Nat.le_refl _) (by simp)
  have X0 := hS.alloc (.cells E.cells 52)
  have C0 := cev_new w E
  have T0 := Stp.below (o := 165) hb hl
  clear hS hb
  go_enter Tryd.func87, Tryd.ntmps87
  go_upto_region 1 with fail
  generalize w.alloc (.cells E.cells 52) = wa at *
  generalize hkk : w.heap.size = k at *
  have c0 := X0.thing i 0 hi (by omega)
  have c2 := X0.thing i 2 hi (by omega)
  have c3 := X0.thing i 3 hi (by omega)
  have f2 := X0.soft (84 + i * 5 + 2)
  have f3 := X0.soft (84 + i * 5 + 3)
  simp only [Nat.add_zero, Ld.thingCell] at c0 c2 c3
  have X1 := X0.set (by omega) (L.up_wh i hi wh)
  have X2 := X1.set (by omega) ((L.setWh i wh).up_loc i hi loc)
  have Y1 : Stp w0.heap.size 165 wa (wa.setCell ⟨w0.heap.size, 84 + i * 5 + 2, none⟩ (.int .i64 wh)) := Stp.put (by omega)
  have Y2 : Stp w0.heap.size 165 (wa.setCell ⟨w0.heap.size, 84 + i * 5 + 2, none⟩ (.int .i64 wh)) ((wa.setCell ⟨w0.heap.size, 84 + i * 5 + 2, none⟩ (.int .i64 wh)).setCell ⟨w0.heap.size, 84 + i * 5 + 3, none⟩ (.int .i64 loc)) := Stp.put (by omega)
  have K2 := (Y2.kept (Y1.kept K0).1).1
  have X3 := hide (X2.other (n := 8) (x := .string (L.tname i)) K2 (by omega))
  have T3 := hide ((T0.trans (Y1.trans Y2)).fresh (k := k) (n := 8) (x := .string (L.tname i)) (by omega) (by omega))
  have C2 := (C0.other (c := w0.heap.size) (by omega) (84 + i * 5 + 2) (.int .i64 wh)).other (c := w0.heap.size) (by omega) (84 + i * 5 + 3) (.int .i64 loc)
  have E3 := hide (C2.putThing (L.tname i))
  have k8 := C0.thing
  have kf := C0.frozen 8
  have hne : k ≠ w0.heap.size := by omega
  have hne2 : w0.heap.size ≠ k := by omega
  clear K0 X0 X1 X2 Y1 Y2 K2 C0 C2 T0
  go_wp2_with (refine wl_event (.tmp 9) rfl rfl _ { E with thing := L.tname i } rfl E3.out ?_)
  refine (happens_any (L := moveL L i wh loc) X3.out { E with thing := L.tname i } hlen).mono ?_
  rintro e w2 ⟨rfl, S2, T2⟩
  have A := hide S2
  have B := hide (T3.out.trans T2)
  clear S2 T2 X3 T3
  go_wp2
  go_end0
  exact ⟨rfl, A.out, B.out⟩
end Go.Proofs.YtaifjndkgfffpaaDoor
/-
  What lies about is taken: the contract, where no box is named.
-/
namespace Go.Proofs.YtaifjndkgfffpaaDoor
open Go.RowKit
set_option linter.unusedVariables false

/-- One thing is taken. -/
def gstep (b : Nat) (s : Ld × List Ev) (i : Int) : Ld × List Ev := (moveL s.1 i.toNat 1 (b : Int), s.2 ++ [allE (moveL s.1 i.toNat 1 (b : Int)) { evN s.1 3 b with thing := s.1.tname i.toNat }])
def takeS (L : Ld) (b : Nat) (q : List Int) : Ld × List Ev := q.foldl (gstep b) (L, [])
theorem take_len (L : Ld) (b : Nat) (q : List Int) : (takeS L b q).2.length = q.length := by
  unfold takeS
  have : ∀ (q : List Int) (s : Ld × List Ev), (q.foldl (gstep b) s).2.length = s.2.length + q.length := by
    intro q
    induction q with
    | nil => intro s; simp
    | cons a q ih => intro s; rw [List.foldl_cons, ih]; simp [gstep]; omega
  rw [this]; simp
theorem take_next (L : Ld) (b : Nat) {q : List Int} {k : Nat} (hk : k < q.length) : takeS L b (q.take (k + 1)) = gstep b (takeS L b (q.take k)) (q.getD k 0) := by
  unfold takeS; rw [take_snoc hk, List.foldl_append]; rfl
def sigE (L : Ld) (b : Nat) (q : List Int) (s : ByteArray) : List Ev := if q = [] then [tellE L b s] else []
/-- What is taken, where no box is named: the land, and what happens. -/
def getL (L : Ld) (b : Nat) (O : Od) : Ld := (takeS L b (meantL L (sightL L b) O.nth O.all O.name)).1
def getE (L : Ld) (b : Nat) (O : Od) : List Ev := sigE L b (meantL L (sightL L b) O.nth O.all O.name) noThingS ++ (takeS L b (meantL L (sightL L b) O.nth O.all O.name)).2

set_option maxRecDepth 100000 in
set_option maxHeartbeats 2000000 in
theorem rget_any {w0 : World} {L : Ld} {Es : List Ev} {w : World} (hS : Sn 62 [] w0 L Es w) (b : Nat) (hb : b < 6) (O : Od) (h2 : O.second = ⟨#[]⟩) (hn0 : -9223372036854775808 ≤ O.nth) (hn1 : O.nth ≤ 9223372036854775807) (hlen : Es.length ≤ 900000) :
    Calls Tryd.prog 57 #[.pointer (some ⟨w0.heap.size, 0, none⟩), .int .i64 (b : Int), .agg O.cells] w fun e w' => e = .returned (.tuple #[]) ∧ Sn 62 [] w0 (getL L b O) (Es ++ getE L b O) w' ∧ Stp w0.heap.size 165 w w' := by
  have hsn : O.second.toList.isEmpty = true := by rw [empty_iff]; simpa using h2
  have X0 := hide (hS.alloc (.cells O.cells 47))
  have T0 := hide (Stp.below (o := 165) (below_box w (.cells O.cells 47)) hS.lt)
  have L0 := hide (below_box w (.cells O.cells 47))
  have G0 := hide (heap_alloc_new w (.cells O.cells 47))
  clear hS h2
  go_enter Tryd.func57, Tryd.ntmps57
  go_wp2_with fail
  refine (sight_any X0.out b hb).mono ?_
  rintro e w1 ⟨v, rfl, ho, hb1⟩
  have S1 := hide (X0.out.below hb1)
  have T1 := hide (T0.out.trans (X0.out.stp hb1 165))
  have N1 := hide (numk_own X0.out hb1 ho)
  have G1 := hide (show w1.heap[w.heap.size]? = some (.cells O.cells 47 (0, 0)) by rw [hb1.block _ (by simp)]; exact G0.out)
  have o4 : w1.cell? ⟨w.heap.size, 4, none⟩ = some (.string O.second) := by rw [cell_of_row _ _ _ _ _ _ G1.out]; rfl
  obtain ⟨av, cap, rfl⟩ := ho.shape
  clear ho hb1 X0 T0 L0 G0
  have hsl := sight_len L b
  go_wp2_with (refine wl_wanted rfl (wp_load_row 47 (.tmp 5) rfl w.heap.size rfl 47 O.cells (0, 0) _ G1.out Tryd.underlying47 rfl Tryd.sizeOrder ?_))
  refine (meant_any S1.out N1.out (fun x hx => sight_lt hx) (by omega) O hn0 hn1).mono ?_
  rintro e w2 ⟨v', rfl, hK, hb2⟩
  have S2 := hide (S1.out.below hb2)
  have T2 := hide (T1.out.trans (S1.out.stp hb2 165))
  have N2 := hide hK
  obtain ⟨av2, cap2, rfl⟩ := hK.shape
  have HM := hide (fun x (hx : x ∈ meantL L (sightL L b) O.nth O.all O.name) => sight_lt (meant_mem hx))
  have hml : (meantL L (sightL L b) O.nth O.all O.name).length ≤ 9 := by
    have h1 := List.length_filter_le (fits L O.name) (sightL L b)
    unfold meantL nthL
    split
    · omega
    · split <;> simp
  have HL := hide (show getL L b O = (takeS L b (meantL L (sightL L b) O.nth O.all O.name)).1 from rfl)
  have HE := hide (show getE L b O = sigE L b (meantL L (sightL L b) O.nth O.all O.name) noThingS ++ (takeS L b (meantL L (sightL L b) O.nth O.all O.name)).2 from rfl)
  clear hK hb2 S1 T1 N1 G1 o4 hsl hsn
  generalize meantL L (sightL L b) O.nth O.all O.name = q at *
  generalize hn : q.length = n at *
  have HNn := hide hn
  clear hn
  cases hz : decide (n = 0) with
  | true =>
    have hz0 : n = 0 := by simpa using hz
    subst hz0
    have hq0 : q = [] := List.eq_nil_of_length_eq_zero HNn.out
    have HE2 := hide (show getE L b O = [tellE L b noThingS] by rw [HE.out, hq0]; rfl)
    have HL2 := hide (show getL L b O = L by rw [HL.out, hq0]; rfl)
    clear hz hq0
    go_wp2_with fail
    refine (rtell_any S2.out b hb _ (by omega)).mono ?_
    rintro e w3 ⟨rfl, S3h, T3h⟩
    have S3 := hide S3h
    have T3 := hide (T2.out.trans T3h)
    clear S3h T3h S2 T2 N2
    go_wp2_with fail
    go_loopw [45] (fun c wr => c = .int .i64 0 ∧ wr = w3) (fun _ _ => 0)
    case atStart => exact ⟨rfl, rfl⟩
    case round =>
      obtain ⟨rfl, rfl⟩ := hrel
      go_wp2
      go_end0
      exact ⟨rfl, by rw [HL2.out, HE2.out]; exact S3.out, T3.out⟩
  | false =>
    have hz0 : n ≠ 0 := by simpa using hz
    have hzi : ((n : Int) == 0) = false := by simp; omega
    have hq0 : q ≠ [] := fun e => by have := HNn.out; rw [e] at this; simp at this; omega
    have HE2 := hide (show getE L b O = (takeS L b q).2 by rw [HE.out]; unfold sigE; rw [if_neg hq0]; rfl)
    clear hz hq0
    go_wp2_with fail
    go_loopw [45] (fun c wr => ∃ k : Nat, k ≤ n ∧ c = .int .i64 k ∧ Sn 62 [] w0 (takeS L b (q.take k)).1 (Es ++ (takeS L b (q.take k)).2) wr ∧ Stp w0.heap.size 165 w wr ∧ NumK w0.heap.size 165 wr (.slice av2 n cap2) q) (fun c _ => n - (intOf c).toNat)
    case atStart => exact ⟨0, by omega, rfl, by simpa [takeS] using S2.out, T2.out, N2.out⟩
    case round =>
      obtain ⟨k, hle, rfl, Rh, Th, Nh⟩ := hrel
      have R := hide Rh
      have TT := hide Th
      have N := hide Nh
      clear Rh Th Nh S2 T2 N2
      by_cases hk : k < n
      · have hkq : k < q.length := by rw [HNn.out]; exact hk
        obtain ⟨bq, off, cap', e, hcell⟩ := N.out.cell hkq
        rw [HNn.out] at e
        injection e with e1 e2 e3
        subst e1 e3
        obtain ⟨i, ei, hi⟩ := HM.out _ (getD_mem hkq)
        have HT := hide (show takeS L b (q.take (k + 1)) = gstep b (takeS L b (q.take k)) (i : Int) by rw [take_next L b hkq, ei])
        rw [ei] at hcell
        have htl : (takeS L b (q.take k)).2.length ≤ 9 := by rw [take_len]; simp; omega
        clear ei
        go_wp2_with fail
        refine (revent_any R.out 3 b hb).mono ?_
        rintro e w3 ⟨rfl, hb3⟩
        have R3 := hide (R.out.below hb3)
        have T3 := hide (TT.out.trans (R.out.stp hb3 165))
        have N3 := hide (N.out.step (R.out.stp hb3 165))
        clear hb3 R TT N
        go_wp2_with fail
        refine (rmove_any R3.out i hi 1 (b : Int) (evN (takeS L b (q.take k)).1 3 b) (by simp only [List.length_append]; omega)).mono ?_
        rintro e w4 ⟨rfl, S4h, T4h⟩
        have S4 := hide S4h
        have T4 := hide (T3.out.trans T4h)
        have N4 := hide (N3.out.step T4h)
        clear S4h T4h R3 T3 N3
        go_wp2
        go_roundw
        case rel => exact ⟨k + 1, by omega, by go_num, by rw [HT.out]; simpa only [gstep, Int.toNat_natCast, List.append_assoc] using S4.out, T4.out, N4.out⟩
        case measure => simp [intOf]; omega
      · have hkn : k = n := by omega
        subst hkn
        have hall : q.take k = q := by rw [← HNn.out]; exact List.take_length
        rw [hall] at R
        clear hall
        go_wp2
        go_end0
        exact ⟨rfl, by rw [HL.out, HE2.out]; exact R.out, TT.out⟩
end Go.Proofs.YtaifjndkgfffpaaDoor
