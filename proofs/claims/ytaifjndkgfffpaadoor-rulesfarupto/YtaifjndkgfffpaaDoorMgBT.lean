/-
  The table of verbs as it was laid; a land that comes in, of bulk at most 1048576: its names are not too long.
-/
import Derived.Test.YtaifjndkgfffpaaDoorCards
import Derived.Test.YtaifjndkgfffpaaDoorTie
import Derived.Test.YtaifjndkgfffpaaDoorMgBS
import Derived.Test.YtaifjndkgfffpaaDoorMgAV
import Derived.Test.YtaifjndkgfffpaaDoorRuActA
import Derived.Shelf.Strconv.AppendIntPublic10
import Derived.Test.YtaifjndkgfffpaaDoorMgBN
namespace Go.Proofs.YtaifjndkgfffpaaDoor
open Go.ChangeShapes Go.WideShapes Go.ChangeAt Go.RowKit
open Go.ChangeMaps (open_string shut_string)
set_option linter.unusedVariables false

theorem rbulk_mem {H : Type} : ∀ (l : List (DataW H)) (i : Nat) (d : DataW H), l[i]? = some d → Rows.uptoBulk d ≤ Rows.uptoBulkAll l
  | [], i, d, h => by simp at h
  | x :: l, 0, d, h => by
    simp at h; subst h
    simp only [Rows.uptoBulkAll]; omega
  | x :: l, i + 1, d, h => by
    have := rbulk_mem l i d (by simpa using h)
    simp only [Rows.uptoBulkAll]; omega

section
variable {H : Type} {enc : TypeId × Value → H} {w : World} {base : Nat} {spare : Nat → Bool} {held : Bool} {fuel : Nat} {c : Nat → Value} {o : Nat} {l : List Value}
theorem bulk_str {x : DataW H × List MemPlace} (hs : Sub c o 1 l) (h : DataW.trod enc Tryd.prog w base spare held fuel 9 l = some x) : ∃ z, c o = .string z ∧ z.size ≤ Rows.uptoBulk x.1 := by
  obtain ⟨z, e, e2, _⟩ := DataW.trod_string Tryd.underlying9 h
  refine ⟨z, hs.one e, ?_⟩
  rw [e2]
  simp only [Rows.uptoBulk]
  have := size_len z
  omega
theorem bulk_room {x : DataW H × List MemPlace} (hs : Sub c o 14 l) (h : DataW.trod enc Tryd.prog w base spare held fuel 25 l = some x) : ∃ z, c o = .string z ∧ z.size ≤ Rows.uptoBulk x.1 := by
  obtain ⟨ys, m, _, ex, _, hl, hf⟩ := DataW.trod_struct Tryd.underlying25 h
  have g0 : DataW.trod enc Tryd.prog w base spare held m 9 ((l.drop 0).take (Tryd.prog.cellsOf 9)) = ys[0]? := hf 0 _ rfl
  rw [Tryd.cells9] at g0
  obtain ⟨y, hy⟩ := Option.isSome_iff_exists.1 (isSome_get (i := 0) hl (by decide))
  rw [hy] at g0
  obtain ⟨z, e1, e2⟩ := bulk_str (hs.cut 0 1 (by omega)) g0
  have hm := rbulk_mem (ys.map (·.1)) 0 y.1 (by rw [List.getElem?_map, hy]; rfl)
  rw [ex]
  simp only [Rows.uptoBulk]
  exact ⟨z, e1, by omega⟩
theorem bulk_thing {x : DataW H × List MemPlace} (hs : Sub c o 5 l) (h : DataW.trod enc Tryd.prog w base spare held fuel 28 l = some x) : ∃ z, c o = .string z ∧ z.size ≤ Rows.uptoBulk x.1 := by
  obtain ⟨ys, m, _, ex, _, hl, hf⟩ := DataW.trod_struct Tryd.underlying28 h
  have g0 : DataW.trod enc Tryd.prog w base spare held m 9 ((l.drop 0).take (Tryd.prog.cellsOf 9)) = ys[0]? := hf 0 _ rfl
  rw [Tryd.cells9] at g0
  obtain ⟨y, hy⟩ := Option.isSome_iff_exists.1 (isSome_get (i := 0) hl (by decide))
  rw [hy] at g0
  obtain ⟨z, e1, e2⟩ := bulk_str (hs.cut 0 1 (by omega)) g0
  have hm := rbulk_mem (ys.map (·.1)) 0 y.1 (by rw [List.getElem?_map, hy]; rfl)
  rw [ex]
  simp only [Rows.uptoBulk]
  exact ⟨z, e1, by omega⟩
theorem bulk_being {x : DataW H × List MemPlace} (hs : Sub c o 6 l) (h : DataW.trod enc Tryd.prog w base spare held fuel 31 l = some x) : ∃ z, c o = .string z ∧ z.size ≤ Rows.uptoBulk x.1 := by
  obtain ⟨ys, m, _, ex, _, hl, hf⟩ := DataW.trod_struct Tryd.underlying31 h
  have g0 : DataW.trod enc Tryd.prog w base spare held m 9 ((l.drop 0).take (Tryd.prog.cellsOf 9)) = ys[0]? := hf 0 _ rfl
  rw [Tryd.cells9] at g0
  obtain ⟨y, hy⟩ := Option.isSome_iff_exists.1 (isSome_get (i := 0) hl (by decide))
  rw [hy] at g0
  obtain ⟨z, e1, e2⟩ := bulk_str (hs.cut 0 1 (by omega)) g0
  have hm := rbulk_mem (ys.map (·.1)) 0 y.1 (by rw [List.getElem?_map, hy]; rfl)
  rw [ex]
  simp only [Rows.uptoBulk]
  exact ⟨z, e1, by omega⟩

set_option maxRecDepth 100000 in
theorem land_names {L : Ld} {d : DataW H} {p : List MemPlace} (h : DataW.Trod enc Tryd.prog w base spare held 34 (.agg L.cells) d p) (hk : Rows.uptoBulk d ≤ 1048576) :
    (∀ r, r < 6 → (L.rname r).size ≤ 1048576) ∧ (∀ i, i < 9 → (L.tname i).size ≤ 1048576) ∧ (∀ b, b < 6 → (L.bname b).size ≤ 1048576) := by
  obtain ⟨fuel, hf⟩ := h
  obtain ⟨ys, m, _, ex, _, hl, hf⟩ := DataW.trod_struct Tryd.underlying34 hf
  simp only [Prod.mk.injEq] at ex
  rw [ex.1] at hk
  simp only [Rows.uptoBulk] at hk
  have hc : (Value.agg L.cells).cells = L.cells := by unfold Value.cells; rfl
  have g0 : DataW.trod enc Tryd.prog w base spare held m 26 (((Value.agg L.cells).cells.toList.drop 0).take (Tryd.prog.cellsOf 26)) = ys[0]? := hf 0 _ rfl
  rw [Tryd.cellsRooms, hc] at g0
  have g1 : DataW.trod enc Tryd.prog w base spare held m 29 (((Value.agg L.cells).cells.toList.drop 84).take (Tryd.prog.cellsOf 29)) = ys[1]? := hf 1 _ rfl
  rw [Tryd.cellsThings, hc] at g1
  have g2 : DataW.trod enc Tryd.prog w base spare held m 32 (((Value.agg L.cells).cells.toList.drop 129).take (Tryd.prog.cellsOf 32)) = ys[2]? := hf 2 _ rfl
  rw [Tryd.cellsBeings, hc] at g2
  have hs : Sub L.cellAt 0 165 L.cells.toList := ⟨by rw [Array.length_toList, L.size], fun j hj => by rw [Array.getElem?_toList, L.get j hj, Nat.zero_add]⟩
  have s0 := hs.cut 0 84 (by omega)
  have s1 := hs.cut 84 45 (by omega)
  have s2 := hs.cut 129 36 (by omega)
  simp only [Nat.zero_add] at s0 s1 s2
  obtain ⟨y0, h0⟩ := Option.isSome_iff_exists.1 (isSome_get (i := 0) hl (by decide))
  obtain ⟨y1, h1⟩ := Option.isSome_iff_exists.1 (isSome_get (i := 1) hl (by decide))
  obtain ⟨y2, h2⟩ := Option.isSome_iff_exists.1 (isSome_get (i := 2) hl (by decide))
  rw [h0] at g0
  rw [h1] at g1
  rw [h2] at g2
  have m0 := rbulk_mem (ys.map (·.1)) 0 y0.1 (by rw [List.getElem?_map, h0]; rfl)
  have m1 := rbulk_mem (ys.map (·.1)) 1 y1.1 (by rw [List.getElem?_map, h1]; rfl)
  have m2 := rbulk_mem (ys.map (·.1)) 2 y2.1 (by rw [List.getElem?_map, h2]; rfl)
  obtain ⟨z0, _, _, x0, _, l0, f0⟩ := DataW.trod_array Tryd.underlying26 g0
  obtain ⟨z1, _, _, x1, _, l1, f1⟩ := DataW.trod_array Tryd.underlying29 g1
  obtain ⟨z2, _, _, x2, _, l2, f2⟩ := DataW.trod_array Tryd.underlying32 g2
  rw [x0] at m0
  rw [x1] at m1
  rw [x2] at m2
  simp only [Rows.uptoBulk] at m0 m1 m2
  refine ⟨fun r hr => ?_, fun i hi => ?_, fun b hb => ?_⟩
  · have g := f0 r hr
    rw [Tryd.cellsRoom] at g
    obtain ⟨u, hu⟩ := Option.isSome_iff_exists.1 (isSome_get l0 hr)
    rw [hu] at g
    obtain ⟨z, e1, e2⟩ := bulk_room (s0.cut (r * 14) 14 (by omega)) g
    have mm := rbulk_mem (z0.map (·.1)) r u.1 (by rw [List.getElem?_map, hu]; rfl)
    have e3 := L.at_room r 0 hr (by omega)
    simp only [Nat.add_zero, Nat.zero_add] at e1 e3
    rw [e3] at e1
    simp only [Ld.roomCell, Value.string.injEq] at e1
    rw [e1]; omega
  · have g := f1 i hi
    rw [Tryd.cellsThing] at g
    obtain ⟨u, hu⟩ := Option.isSome_iff_exists.1 (isSome_get l1 hi)
    rw [hu] at g
    obtain ⟨z, e1, e2⟩ := bulk_thing (s1.cut (i * 5) 5 (by omega)) g
    have mm := rbulk_mem (z1.map (·.1)) i u.1 (by rw [List.getElem?_map, hu]; rfl)
    have e3 := L.at_thing i 0 hi (by omega)
    simp only [Nat.add_zero] at e1 e3
    rw [e3] at e1
    simp only [Ld.thingCell, Value.string.injEq] at e1
    rw [e1]; omega
  · have g := f2 b hb
    rw [Tryd.cellsBeing] at g
    obtain ⟨u, hu⟩ := Option.isSome_iff_exists.1 (isSome_get l2 hb)
    rw [hu] at g
    obtain ⟨z, e1, e2⟩ := bulk_being (s2.cut (b * 6) 6 (by omega)) g
    have mm := rbulk_mem (z2.map (·.1)) b u.1 (by rw [List.getElem?_map, hu]; rfl)
    have e3 := L.at_being b 0 hb (by omega)
    simp only [Nat.add_zero] at e1 e3
    rw [e3] at e1
    simp only [Ld.beingCell, Value.string.injEq] at e1
    rw [e1]; omega
end

def rvname : String := (Rows.rulesKeepUptoRow.laid.map (·.1)).getD 0 default
theorem rgVerbs : Tryd.prog.globalNamed rvname = some 1 := by kernel_rfl
theorem rtVerbs : (Tryd.prog.globals[(1 : Nat)]?).map (·.type) = some 89 := by kernel_rfl
theorem of_laidR {W : World} (h : laidMetH Tryd.prog Rows.rulesKeepUptoRow.laid W) : Vb W := by
  rw [MakeChecks.laidMetH_plain _ _ _ (by kernel_rfl)] at h
  obtain ⟨ps, ⟨g0, t0, cs0, f0, p0, q0, hg0, ht0, hv0, hd0, _, _⟩, _, _⟩ := h
  obtain rfl := Option.some.inj (rgVerbs.symm.trans hg0)
  obtain rfl := Option.some.inj (rtVerbs.symm.trans ht0)
  obtain ⟨t, fr, hb⟩ := block_of_var hg0 hv0
  have e := cells_of_texts (l := verbs) Tryd.underlying89 rfl Tryd.cellsVerbs hd0
  have e2 : cs0 = vcells := by
    obtain ⟨l⟩ := cs0
    have e' : l = verbs.map fun s => Value.string (bs s) := e
    rw [e']; rfl
  rw [e2] at hb
  exact ⟨t, fr, hb⟩

/-! ### A land of nothing, as data. -/
def rRoomD {H : Type} : DataW H := .agg [.lit (.string []), .lit (.bool false), .agg (List.replicate 6 (.lit (.int .i64 0))), .agg (List.replicate 6 (.lit (.bool false)))]
def rThingD {H : Type} : DataW H := .agg [.lit (.string []), .lit (.int .i64 0), .lit (.int .i64 0), .lit (.int .i64 0), .lit (.bool false)]
def rBeingD {H : Type} : DataW H := .agg [.lit (.string []), .lit (.bool false), .lit (.bool false), .lit (.int .i64 0), .lit (.int .i64 0), .lit (.int .i64 0)]
def rLandD {H : Type} : DataW H := .agg [.agg (List.replicate 6 rRoomD), .agg (List.replicate 9 rThingD), .agg (List.replicate 6 rBeingD)]
end Go.Proofs.YtaifjndkgfffpaaDoor
/-
  An order that comes in: how it is read; its texts are not too long.
-/
namespace Go.Proofs.YtaifjndkgfffpaaDoor
open Go.ChangeShapes Go.WideShapes Go.ChangeAt Go.RowKit
open Go.ChangeMaps (open_string shut_string)
set_option linter.unusedVariables false

theorem Tryd.cellsOrder : Tryd.prog.cellsOf 47 = 6 := by kernel_rfl
theorem Tryd.recOrder : Tryd.prog.readableRec 47 = true := by kernel_rfl
def odOf (c : Nat → Value) : Od := { verb := intOf (c 0), nth := intOf (c 1), all := bOf (c 2), name := sOf (c 3), second := sOf (c 4), text := sOf (c 5) }
def rOrderD {H : Type} : DataW H := .agg [.lit (.int .i64 0), .lit (.int .i64 0), .lit (.bool false), .lit (.string []), .lit (.string []), .lit (.string [])]
def zOrd : Od := { verb := 0, nth := 0, all := false, name := ⟨#[]⟩, second := ⟨#[]⟩, text := ⟨#[]⟩ }

set_option maxRecDepth 100000 in
theorem open_order {H : Type} {enc : TypeId × Value → H} {w : World} {base : Nat} {spare : Nat → Bool} {held : Bool} {r : Reach} {b0 : Nat} {v : Value} {d : DataW H} {p : List MemPlace} (hv : Value.okWide Tryd.prog w r b0 47 v) (h : DataW.Trod enc Tryd.prog w base spare held 47 v d p) :
    ∃ O : Od, v = .agg O.cells ∧ (-9223372036854775808 ≤ O.nth ∧ O.nth ≤ 9223372036854775807) ∧ O.name.size ≤ Rows.uptoBulk d ∧ O.second.size ≤ Rows.uptoBulk d ∧ O.text.size ≤ Rows.uptoBulk d := by
  obtain ⟨cs, rfl, hsz⟩ := okWide_struct Tryd.underlying47 hv
  rw [Tryd.cellsOrder] at hsz
  obtain ⟨fuel, hf⟩ := h
  obtain ⟨ys, m, _, ex, _, hl, hf⟩ := DataW.trod_struct Tryd.underlying47 hf
  have hs : Sub (fun n => cs.getD n undef) 0 6 cs.toList := ⟨by simpa using hsz, fun j hj => by simp [hsz, hj]⟩
  have g0 : DataW.trod enc Tryd.prog w base spare held m 3 ((cs.toList.drop 0).take (Tryd.prog.cellsOf 3)) = ys[0]? := hf 0 _ rfl
  rw [Tryd.cells3] at g0
  have i0 := sub_int (hs.cut 0 1 (by omega)) g0 (isSome_get hl (by decide))
  have g1 : DataW.trod enc Tryd.prog w base spare held m 3 ((cs.toList.drop 1).take (Tryd.prog.cellsOf 3)) = ys[1]? := hf 1 _ rfl
  rw [Tryd.cells3] at g1
  have i1 := sub_int (hs.cut 1 1 (by omega)) g1 (isSome_get hl (by decide))
  have g2 : DataW.trod enc Tryd.prog w base spare held m 4 ((cs.toList.drop 2).take (Tryd.prog.cellsOf 4)) = ys[2]? := hf 2 _ rfl
  rw [Tryd.cells4] at g2
  have i2 := sub_bool (hs.cut 2 1 (by omega)) g2 (isSome_get hl (by decide))
  have g3 : DataW.trod enc Tryd.prog w base spare held m 9 ((cs.toList.drop 3).take (Tryd.prog.cellsOf 9)) = ys[3]? := hf 3 _ rfl
  rw [Tryd.cells9] at g3
  have s3 := sub_str (hs.cut 3 1 (by omega)) g3 (isSome_get hl (by decide))
  have g4 : DataW.trod enc Tryd.prog w base spare held m 9 ((cs.toList.drop 4).take (Tryd.prog.cellsOf 9)) = ys[4]? := hf 4 _ rfl
  rw [Tryd.cells9] at g4
  have s4 := sub_str (hs.cut 4 1 (by omega)) g4 (isSome_get hl (by decide))
  have g5 : DataW.trod enc Tryd.prog w base spare held m 9 ((cs.toList.drop 5).take (Tryd.prog.cellsOf 9)) = ys[5]? := hf 5 _ rfl
  rw [Tryd.cells9] at g5
  have s5 := sub_str (hs.cut 5 1 (by omega)) g5 (isSome_get hl (by decide))
  simp only [Prod.mk.injEq] at ex
  have hbig : ∀ (i : Nat) (o : Nat) (l : List Value), i < 6 → Sub (fun n => cs.getD n undef) o 1 l → DataW.trod enc Tryd.prog w base spare held m 9 l = ys[i]? → (sOf (cs.getD o undef)).size ≤ Rows.uptoBulk d := by
    intro i o l hi hsub hg
    obtain ⟨y, hy⟩ := Option.isSome_iff_exists.1 (isSome_get (i := i) hl hi)
    rw [hy] at hg
    obtain ⟨z, e1, e2⟩ := bulk_str hsub hg
    have hm := rbulk_mem (ys.map (·.1)) i y.1 (by rw [List.getElem?_map, hy]; rfl)
    have e3 : sOf (cs.getD o undef) = z := by
      have : cs.getD o undef = .string z := e1
      rw [this]; rfl
    rw [e3, ex.1]
    simp only [Rows.uptoBulk]
    omega
  have z3 := hbig 3 _ _ (by omega) (hs.cut 3 1 (by omega)) g3
  have z4 := hbig 4 _ _ (by omega) (hs.cut 4 1 (by omega)) g4
  have z5 := hbig 5 _ _ (by omega) (hs.cut 5 1 (by omega)) g5
  simp only [Nat.zero_add] at i0 i1 i2 s3 s4 s5 z3 z4 z5
  refine ⟨odOf (fun n => cs.getD n undef), congrArg Value.agg ?_, i1.bounds, z3, z4, z5⟩
  have hc : ∀ n, n < 6 → cs[n]? = some (cs.getD n undef) := fun n hn => by simp [hsz, hn]
  apply Array.ext_getElem?
  intro n
  by_cases hn : n < 6
  · rw [hc n hn]
    have key : ∀ m, m < 6 → (odOf (fun n => cs.getD n undef)).cells[m]? = some (cs.getD m undef) := by
      intro m hm
      match m, hm with
      | 0, _ => exact congrArg some i0.eq
      | 1, _ => exact congrArg some i1.eq
      | 2, _ => exact congrArg some i2.eq
      | 3, _ => exact congrArg some s3.eq
      | 4, _ => exact congrArg some s4.eq
      | 5, _ => exact congrArg some s5.eq
      | n + 6, h => exact absurd h (by omega)
    exact (key n hn).symm
  · rw [Array.getElem?_eq_none (by omega), Array.getElem?_eq_none (by simp [Od.cells]; omega)]
end Go.Proofs.YtaifjndkgfffpaaDoor
/-
  The library's contract of strconv.AppendInt, laid at this program (the table of numbers and one theorem: the text that the kit's own command makes), and what it gives: Ai.
-/
namespace Go.Proofs.YtaifjndkgfffpaaDoor
open Go.RowKit
set_option linter.unusedVariables false

def Tryd.lays176_ren : Go.Shelf.Ren := ⟨fun | 176 => 74 | 249 => 95 | 288 => 103 | 283 => 110 | 284 => 111 | 285 => 112 | 286 => 113 | 129 => 117 | 317 => 116 | 318 => 118 | 319 => 119 | 320 => 120 | 337 => 122 | 338 => 123 | n => n, fun | 37 => 68 | 2 => 2 | 3 => 3 | 53 => 128 | 4 => 4 | 9 => 9 | 171 => 133 | 0 => 0 | 173 => 136 | 212 => 140 | 51 => 141 | 5 => 5 | 20 => 20 | 213 => 142 | 46 => 143 | 232 => 147 | 233 => 148 | n => n, fun | 17 => 2 | 18 => 4 | 19 => 5 | n => n⟩
theorem Tryd.lays176 : Go.Proofs.LaysM.n176 Tryd.prog Tryd.lays176_ren := {
  mixed := by kernel_rfl
  f129 := Tryd.func117.trans (congrArg some (by kernel_rfl))
  f176 := Tryd.func74.trans (congrArg some (by kernel_rfl))
  f249 := Tryd.func95.trans (congrArg some (by kernel_rfl))
  f283 := Tryd.func110.trans (congrArg some (by kernel_rfl))
  f284 := Tryd.func111.trans (congrArg some (by kernel_rfl))
  f285 := Tryd.func112.trans (congrArg some (by kernel_rfl))
  f286 := Tryd.func113.trans (congrArg some (by kernel_rfl))
  f288 := Tryd.func103.trans (congrArg some (by kernel_rfl))
  f317 := Tryd.func116.trans (congrArg some (by kernel_rfl))
  f318 := Tryd.func118.trans (congrArg some (by kernel_rfl))
  f319 := Tryd.func119.trans (congrArg some (by kernel_rfl))
  f320 := Tryd.func120.trans (congrArg some (by kernel_rfl))
  f337 := Tryd.func122.trans (congrArg some (by kernel_rfl))
  f338 := Tryd.func123.trans (congrArg some (by kernel_rfl))
  t0 := Tryd.underlying0
  a0 := Tryd.isAgg0
  z0 := Tryd.sizeOf0
  v0 := Tryd.zeroValue0
  t2 := Tryd.underlying2
  a2 := Tryd.isAgg2
  z2 := Tryd.sizeOf2
  v2 := Tryd.zeroValue2
  t3 := Tryd.underlying3
  a3 := Tryd.isAgg3
  z3 := Tryd.sizeOf3
  v3 := Tryd.zeroValue3
  t4 := Tryd.underlying4
  a4 := Tryd.isAgg4
  z4 := Tryd.sizeOf4
  v4 := Tryd.zeroValue4
  t5 := Tryd.underlying5
  a5 := Tryd.isAgg5
  z5 := Tryd.sizeOf5
  v5 := Tryd.zeroValue5
  t9 := Tryd.underlying9
  a9 := Tryd.isAgg9
  z9 := Tryd.sizeOf9
  v9 := Tryd.zeroValue9
  t20 := Tryd.underlying20
  a20 := Tryd.isAgg20
  z20 := Tryd.sizeOf20
  v20 := Tryd.zeroValue20
  t37 := Tryd.underlying68
  a37 := Tryd.isAgg68
  z37 := Tryd.sizeOf68
  v37 := Tryd.zeroValue68
  t46 := Tryd.underlying143
  a46 := Tryd.isAgg143
  z46 := Tryd.sizeOf143
  v46 := Tryd.zeroValue143
  t51 := Tryd.underlying141
  a51 := Tryd.isAgg141
  z51 := Tryd.sizeOf141
  v51 := Tryd.zeroValue141
  t53 := Tryd.underlying128
  a53 := Tryd.isAgg128
  z53 := Tryd.sizeOf128
  v53 := Tryd.zeroValue128
  t171 := Tryd.underlying133
  a171 := Tryd.isAgg133
  z171 := Tryd.sizeOf133
  v171 := Tryd.zeroValue133
  t173 := Tryd.underlying136
  a173 := Tryd.isAgg136
  z173 := Tryd.sizeOf136
  v173 := Tryd.zeroValue136
  t212 := Tryd.underlying140
  a212 := Tryd.isAgg140
  z212 := Tryd.sizeOf140
  v212 := Tryd.zeroValue140
  t213 := Tryd.underlying142
  a213 := Tryd.isAgg142
  z213 := Tryd.sizeOf142
  t232 := Tryd.underlying147
  a232 := Tryd.isAgg147
  z232 := Tryd.sizeOf147
  v232 := Tryd.zeroValue147
  t233 := Tryd.underlying148
  a233 := Tryd.isAgg148
  z233 := Tryd.sizeOf148
  v233 := Tryd.zeroValue148
  g17 := by kernel_rfl
  g18 := by kernel_rfl
  g19 := by kernel_rfl
  i0 := by kernel_rfl
  i2 := by kernel_rfl
  i3 := by kernel_rfl
  i4 := by kernel_rfl
  i5 := by kernel_rfl
  i9 := by kernel_rfl
  i20 := by kernel_rfl
  i37 := by kernel_rfl
  i46 := by kernel_rfl
  i51 := by kernel_rfl
  i53 := by kernel_rfl
  i171 := by kernel_rfl
  i173 := by kernel_rfl
  i212 := by kernel_rfl
  i232 := by kernel_rfl
  i233 := by kernel_rfl
  m17 := by kernel_rfl
  m18 := by kernel_rfl
  m19 := by kernel_rfl }

def pname : String := (Rows.rulesFarUptoRow.laid.map (·.1)).getD 2 default

theorem ai_of_tab {w0 : World} (htab : Lib.TabIs Tryd.prog w0 pname .u64 Lib.pow10Tab) : Ai w0 := fun w B n i sv xs hb hB h0 h1 ho hBw hl =>
  (Any.strconv_AppendInt_10 Tryd.lays176 B n i h0 h1 sv xs w ho hBw hl (fun w' hb' => (Lib.tabBelow_of_tabIs htab) w' (hb.trans (hb'.mono hB)))).mono
    fun e w' ⟨v', he, ho', hb', _⟩ => ⟨v', he, ho', hb'⟩
end Go.Proofs.YtaifjndkgfffpaaDoor
/-
  The tables as they were laid where strconv is read too: the verbs, and the powers of ten.
-/
namespace Go.Proofs.YtaifjndkgfffpaaDoor
open Go.ChangeShapes Go.WideShapes Go.ChangeAt Go.RowKit
open Go.ChangeMaps (open_string shut_string)
set_option linter.unusedVariables false

def vnameF : String := (Rows.rulesFarUptoRow.laid.map (·.1)).getD 3 default
theorem gVerbsF : Tryd.prog.globalNamed vnameF = some 1 := by kernel_rfl
theorem tVerbsF : (Tryd.prog.globals[(1 : Nat)]?).map (·.type) = some 89 := by kernel_rfl
theorem gPow : Tryd.prog.globalNamed pname = some 2 := by kernel_rfl
theorem tPow : (Tryd.prog.globals[(2 : Nat)]?).map (·.type) = some 140 := by kernel_rfl
theorem Tryd.cellsPow : Tryd.prog.cellsOf 140 = 20 := by kernel_rfl
theorem Tryd.cellsU64 : Tryd.prog.cellsOf 128 = 1 := by kernel_rfl

theorem of_laidF {W : World} (h : laidMetH Tryd.prog Rows.rulesFarUptoRow.laid W) : Vb W ∧ Ai W := by
  rw [MakeChecks.laidMetH_plain _ _ _ (by kernel_rfl)] at h
  obtain ⟨ps, ⟨g0, t0, cs0, f0, p0, q0, hg0, ht0, hv0, hd0, ⟨g1, t1, cs1, f1, p1, q1, hg1, ht1, hv1, hd1, ⟨g2, t2, cs2, f2, p2, q2, hg2, ht2, hv2, hd2, ⟨g3, t3, cs3, f3, p3, q3, hg3, ht3, hv3, hd3, _, _⟩, _⟩, _⟩, _⟩, _, _⟩ := h
  constructor
  · obtain rfl := Option.some.inj (gVerbsF.symm.trans hg3)
    obtain rfl := Option.some.inj (tVerbsF.symm.trans ht3)
    obtain ⟨t, fr, hb⟩ := block_of_var hg3 hv3
    have e := cells_of_texts (l := verbs) Tryd.underlying89 rfl Tryd.cellsVerbs hd3
    have e2 : cs3 = vcells := by
      obtain ⟨l⟩ := cs3
      have e' : l = verbs.map fun s => Value.string (bs s) := e
      rw [e']; rfl
    rw [e2] at hb
    exact ⟨t, fr, hb⟩
  · obtain rfl := Option.some.inj (gPow.symm.trans hg2)
    obtain rfl := Option.some.inj (tPow.symm.trans ht2)
    have e := Lib.cells_of_tab (k := .u64) (zs := Lib.pow10Tab) Tryd.underlying140 Tryd.underlying128 Tryd.cellsU64 Tryd.cellsPow hd2
    refine ai_of_tab ?_
    unfold Lib.TabIs
    refine hv2.trans (congrArg some ?_)
    obtain ⟨l⟩ := cs2
    have e' : l = Lib.pow10Tab.map fun z => Value.int .u64 z := e
    rw [e']

end Go.Proofs.YtaifjndkgfffpaaDoor
