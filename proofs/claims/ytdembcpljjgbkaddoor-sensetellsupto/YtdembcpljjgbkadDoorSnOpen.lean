/-
  The tables as they were laid: the verbs, and the powers of ten that strconv reads; how an event that comes in is read.
-/
import Derived.Test.YtdembcpljjgbkadDoorCards
import Derived.Test.YtdembcpljjgbkadDoorTie
import Derived.Test.YtdembcpljjgbkadDoorWdLay
import Derived.Test.YtdembcpljjgbkadDoorSnLib
import Derived.Test.YtdembcpljjgbkadDoorLdOpen
import Derived.Test.YtdembcpljjgbkadDoorLdNewF
namespace Go.Proofs.YtdembcpljjgbkadDoor
open Go.ChangeShapes Go.WideShapes Go.ChangeAt Go.RowKit
open Go.ChangeMaps (open_string shut_string)
set_option linter.unusedVariables false

def vname : String := (Rows.senseNamesRow.laid.map (·.1)).getD 3 default
theorem gVerbs : Tryd.prog.globalNamed vname = some 0 := by kernel_rfl
theorem tVerbs : (Tryd.prog.globals[(0 : Nat)]?).map (·.type) = some 58 := by kernel_rfl
theorem gPow : Tryd.prog.globalNamed pname = some 3 := by kernel_rfl
theorem tPow : (Tryd.prog.globals[(3 : Nat)]?).map (·.type) = some 118 := by kernel_rfl
theorem Tryd.cellsPow : Tryd.prog.cellsOf 118 = 20 := by kernel_rfl
theorem Tryd.cellsU64 : Tryd.prog.cellsOf 106 = 1 := by kernel_rfl

theorem of_laid {W : World} (h : laidMetH Tryd.prog Rows.senseNamesRow.laid W) : Vb W ∧ Ai W := by
  rw [MakeChecks.laidMetH_plain _ _ _ (by kernel_rfl)] at h
  obtain ⟨ps, ⟨g0, t0, cs0, f0, p0, q0, hg0, ht0, hv0, hd0, ⟨g1, t1, cs1, f1, p1, q1, hg1, ht1, hv1, hd1, ⟨g2, t2, cs2, f2, p2, q2, hg2, ht2, hv2, hd2, ⟨g3, t3, cs3, f3, p3, q3, hg3, ht3, hv3, hd3, _, _⟩, _⟩, _⟩, _⟩, _, _⟩ := h
  constructor
  · obtain rfl := Option.some.inj (gVerbs.symm.trans hg3)
    obtain rfl := Option.some.inj (tVerbs.symm.trans ht3)
    obtain ⟨t, fr, hb⟩ := block_of_var hg3 hv3
    have e := cells_of_texts (l := verbs) Tryd.underlying58 rfl Tryd.cellsVerbs hd3
    have e2 : cs3 = vcells := by
      obtain ⟨l⟩ := cs3
      have e' : l = verbs.map fun s => Value.string (bs s) := e
      rw [e']; rfl
    rw [e2] at hb
    exact ⟨t, fr, hb⟩
  · obtain rfl := Option.some.inj (gPow.symm.trans hg2)
    obtain rfl := Option.some.inj (tPow.symm.trans ht2)
    have e := Lib.cells_of_tab (k := .u64) (zs := Lib.pow10Tab) Tryd.underlying118 Tryd.underlying106 Tryd.cellsU64 Tryd.cellsPow hd2
    refine ai_of_tab ?_
    unfold Lib.TabIs
    refine hv2.trans (congrArg some ?_)
    obtain ⟨l⟩ := cs2
    have e' : l = Lib.pow10Tab.map fun z => Value.int .u64 z := e
    rw [e']

/-! ### An event that comes in. -/
theorem Tryd.cellsEvent : Tryd.prog.cellsOf 48 = 16 := by kernel_rfl
theorem Tryd.recEvent : Tryd.prog.readableRec 48 = true := by kernel_rfl

/-- The event that cells tell of. -/
def evOf (c : Nat → Value) : Ev := {
  kind := intOf (c 0), room := intOf (c 1), actor := intOf (c 2), other := intOf (c 3), dir := intOf (c 4), num := intOf (c 5)
  who := sOf (c 6), whom := sOf (c 7), thing := sOf (c 8), text := sOf (c 9), by' := fun j => intOf (c (10 + j)) }

/-- Whole numbers as a machine has them. -/
structure WfE (E : Ev) : Prop where
  num : -9223372036854775808 ≤ E.num ∧ E.num ≤ 9223372036854775807
  by' : ∀ k, k < 6 → -9223372036854775808 ≤ E.by' k ∧ E.by' k ≤ 9223372036854775807

set_option maxRecDepth 100000 in
theorem open_event {H : Type} {enc : TypeId × Value → H} {w : World} {base : Nat} {spare : Nat → Bool} {held : Bool} {r : Reach} {b0 : Nat} {v : Value} {d : DataW H} {p : List MemPlace} (hv : Value.okWide Tryd.prog w r b0 48 v) (h : DataW.Trod enc Tryd.prog w base spare held 48 v d p) :
    ∃ E : Ev, v = .agg E.cells ∧ WfE E := by
  obtain ⟨cs, rfl, hsz⟩ := okWide_struct Tryd.underlying48 hv
  rw [Tryd.cellsEvent] at hsz
  obtain ⟨fuel, hf⟩ := h
  obtain ⟨ys, m, _, _, _, hl, hf⟩ := DataW.trod_struct Tryd.underlying48 hf
  have hs : Sub (fun n => cs.getD n undef) 0 16 cs.toList := ⟨by simpa using hsz, fun j hj => by simp [hsz, hj]⟩
  have g0 : DataW.trod enc Tryd.prog w base spare held m 3 ((cs.toList.drop 0).take (Tryd.prog.cellsOf 3)) = ys[0]? := hf 0 _ rfl
  rw [Tryd.cells3] at g0
  have i0 := sub_int (hs.cut 0 1 (by omega)) g0 (isSome_get hl (by decide))
  have g1 : DataW.trod enc Tryd.prog w base spare held m 3 ((cs.toList.drop 1).take (Tryd.prog.cellsOf 3)) = ys[1]? := hf 1 _ rfl
  rw [Tryd.cells3] at g1
  have i1 := sub_int (hs.cut 1 1 (by omega)) g1 (isSome_get hl (by decide))
  have g2 : DataW.trod enc Tryd.prog w base spare held m 3 ((cs.toList.drop 2).take (Tryd.prog.cellsOf 3)) = ys[2]? := hf 2 _ rfl
  rw [Tryd.cells3] at g2
  have i2 := sub_int (hs.cut 2 1 (by omega)) g2 (isSome_get hl (by decide))
  have g3 : DataW.trod enc Tryd.prog w base spare held m 3 ((cs.toList.drop 3).take (Tryd.prog.cellsOf 3)) = ys[3]? := hf 3 _ rfl
  rw [Tryd.cells3] at g3
  have i3 := sub_int (hs.cut 3 1 (by omega)) g3 (isSome_get hl (by decide))
  have g4 : DataW.trod enc Tryd.prog w base spare held m 3 ((cs.toList.drop 4).take (Tryd.prog.cellsOf 3)) = ys[4]? := hf 4 _ rfl
  rw [Tryd.cells3] at g4
  have i4 := sub_int (hs.cut 4 1 (by omega)) g4 (isSome_get hl (by decide))
  have g5 : DataW.trod enc Tryd.prog w base spare held m 3 ((cs.toList.drop 5).take (Tryd.prog.cellsOf 3)) = ys[5]? := hf 5 _ rfl
  rw [Tryd.cells3] at g5
  have i5 := sub_int (hs.cut 5 1 (by omega)) g5 (isSome_get hl (by decide))
  have g6 : DataW.trod enc Tryd.prog w base spare held m 9 ((cs.toList.drop 6).take (Tryd.prog.cellsOf 9)) = ys[6]? := hf 6 _ rfl
  rw [Tryd.cells9] at g6
  have s6 := sub_str (hs.cut 6 1 (by omega)) g6 (isSome_get hl (by decide))
  have g7 : DataW.trod enc Tryd.prog w base spare held m 9 ((cs.toList.drop 7).take (Tryd.prog.cellsOf 9)) = ys[7]? := hf 7 _ rfl
  rw [Tryd.cells9] at g7
  have s7 := sub_str (hs.cut 7 1 (by omega)) g7 (isSome_get hl (by decide))
  have g8 : DataW.trod enc Tryd.prog w base spare held m 9 ((cs.toList.drop 8).take (Tryd.prog.cellsOf 9)) = ys[8]? := hf 8 _ rfl
  rw [Tryd.cells9] at g8
  have s8 := sub_str (hs.cut 8 1 (by omega)) g8 (isSome_get hl (by decide))
  have g9 : DataW.trod enc Tryd.prog w base spare held m 9 ((cs.toList.drop 9).take (Tryd.prog.cellsOf 9)) = ys[9]? := hf 9 _ rfl
  rw [Tryd.cells9] at g9
  have s9 := sub_str (hs.cut 9 1 (by omega)) g9 (isSome_get hl (by decide))
  have g10 : DataW.trod enc Tryd.prog w base spare held m 34 ((cs.toList.drop 10).take (Tryd.prog.cellsOf 34)) = ys[10]? := hf 10 _ rfl
  rw [Tryd.cellsInts] at g10
  have i10 := sub_ints (hs.cut 10 6 (by omega)) g10 (isSome_get hl (by decide))
  simp only [Nat.zero_add] at i0 i1 i2 i3 i4 i5 s6 s7 s8 s9 i10
  refine ⟨evOf (fun n => cs.getD n undef), congrArg Value.agg ?_, ⟨i5.bounds, fun k hk => (i10 k hk).bounds⟩⟩
  have hc : ∀ n, n < 16 → cs[n]? = some (cs.getD n undef) := fun n hn => by simp [hsz, hn]
  apply Array.ext_getElem?
  intro n
  by_cases hn : n < 16
  · rw [hc n hn]
    have key : ∀ m, m < 16 → (evOf (fun n => cs.getD n undef)).cells[m]? = some (cs.getD m undef) := by
      intro m hm
      match m, hm with
      | 0, _ => exact congrArg some i0.eq
      | 1, _ => exact congrArg some i1.eq
      | 2, _ => exact congrArg some i2.eq
      | 3, _ => exact congrArg some i3.eq
      | 4, _ => exact congrArg some i4.eq
      | 5, _ => exact congrArg some i5.eq
      | 6, _ => exact congrArg some s6.eq
      | 7, _ => exact congrArg some s7.eq
      | 8, _ => exact congrArg some s8.eq
      | 9, _ => exact congrArg some s9.eq
      | 10, _ => exact congrArg some (i10 0 (by omega)).eq
      | 11, _ => exact congrArg some (i10 1 (by omega)).eq
      | 12, _ => exact congrArg some (i10 2 (by omega)).eq
      | 13, _ => exact congrArg some (i10 3 (by omega)).eq
      | 14, _ => exact congrArg some (i10 4 (by omega)).eq
      | 15, _ => exact congrArg some (i10 5 (by omega)).eq
      | n + 16, h => exact absurd h (by omega)
    exact (key n hn).symm
  · rw [Array.getElem?_eq_none (by omega), Array.getElem?_eq_none (by rw [Ev.size]; omega)]

/-! ### A land and an event of nothing, as data. -/
def dRoom {H : Type} : DataW H := .agg [.lit (.string []), .lit (.bool false), .agg (List.replicate 6 (.lit (.int .i64 0))), .agg (List.replicate 6 (.lit (.bool false)))]
def dThing {H : Type} : DataW H := .agg [.lit (.string []), .lit (.int .i64 0), .lit (.int .i64 0), .lit (.int .i64 0), .lit (.bool false)]
def dBeing {H : Type} : DataW H := .agg [.lit (.string []), .lit (.bool false), .lit (.bool false), .lit (.int .i64 0), .lit (.int .i64 0), .lit (.int .i64 0)]
def dLand {H : Type} : DataW H := .agg [.agg (List.replicate 6 dRoom), .agg (List.replicate 9 dThing), .agg (List.replicate 6 dBeing)]
def dEvent {H : Type} : DataW H := .agg (List.replicate 6 (.lit (.int .i64 0)) ++ List.replicate 4 (.lit (.string [])) ++ [.agg (List.replicate 6 (.lit (.int .i64 0)))])
def ze : Ev := { kind := 0, room := 0, actor := 0, other := 0, dir := 0, num := 0, who := ⟨#[]⟩, whom := ⟨#[]⟩, thing := ⟨#[]⟩, text := ⟨#[]⟩, by' := fun _ => 0 }
end Go.Proofs.YtdembcpljjgbkadDoor
