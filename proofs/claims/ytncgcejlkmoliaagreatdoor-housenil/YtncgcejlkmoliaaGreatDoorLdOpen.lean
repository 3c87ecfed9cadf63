/-
  How a land that comes in is read, and how a law's row is closed where nothing old has turned.
-/
import Derived.Test.YtncgcejlkmoliaaGreatDoorLdArm2
import Derived.Test.YtncgcejlkmoliaaGreatDoorBsOpen
namespace Go.Proofs.YtncgcejlkmoliaaGreatDoor
open Go.ChangeShapes Go.WideShapes Go.ChangeAt Go.RowKit
set_option linter.unusedVariables false

theorem Tryz.cellsLand : Tryz.prog.cellsOf 43 = 165 := by kernel_rfl
theorem Tryz.cellsRooms : Tryz.prog.cellsOf 35 = 84 := by kernel_rfl
theorem Tryz.cellsRoom : Tryz.prog.cellsOf 34 = 14 := by kernel_rfl
theorem Tryz.cellsThings : Tryz.prog.cellsOf 38 = 45 := by kernel_rfl
theorem Tryz.cellsThing : Tryz.prog.cellsOf 37 = 5 := by kernel_rfl
theorem Tryz.cellsBeings : Tryz.prog.cellsOf 41 = 36 := by kernel_rfl
theorem Tryz.cellsBeing : Tryz.prog.cellsOf 40 = 6 := by kernel_rfl
theorem Tryz.cellsInts : Tryz.prog.cellsOf 31 = 6 := by kernel_rfl
theorem Tryz.cellsBools : Tryz.prog.cellsOf 32 = 6 := by kernel_rfl
theorem Tryz.recLand : Tryz.prog.readableRec 43 = true := by kernel_rfl
def sOf : Value → ByteArray
  | .string s => s
  | _ => ⟨#[]⟩
def bOf : Value → Bool
  | .bool b => b
  | _ => false
def IsS (v : Value) : Prop := ∃ s, v = .string s
def IsB (v : Value) : Prop := ∃ b, v = .bool b
def IsI (v : Value) : Prop := ∃ n : Int, v = .int .i64 n ∧ -9223372036854775808 ≤ n ∧ n ≤ 9223372036854775807
theorem IsS.eq {v : Value} (h : IsS v) : .string (sOf v) = v := by obtain ⟨s, rfl⟩ := h; rfl
theorem IsB.eq {v : Value} (h : IsB v) : .bool (bOf v) = v := by obtain ⟨s, rfl⟩ := h; rfl
theorem IsI.eq {v : Value} (h : IsI v) : .int .i64 (intOf v) = v := by obtain ⟨s, rfl, _⟩ := h; rfl
theorem IsI.bounds {v : Value} (h : IsI v) : -9223372036854775808 ≤ intOf v ∧ intOf v ≤ 9223372036854775807 := by obtain ⟨s, rfl, h⟩ := h; exact h

/-- The land that cells tell of. -/
def ofCells (c : Nat → Value) : Ld := {
  rname := fun r => sOf (c (r * 14))
  dark := fun r => bOf (c (r * 14 + 1))
  exit := fun r d => intOf (c (r * 14 + 2 + d))
  shut := fun r d => bOf (c (r * 14 + 8 + d))
  tname := fun i => sOf (c (84 + i * 5))
  kind := fun i => intOf (c (84 + i * 5 + 1))
  wh := fun i => intOf (c (84 + i * 5 + 2))
  loc := fun i => intOf (c (84 + i * 5 + 3))
  on := fun i => bOf (c (84 + i * 5 + 4))
  bname := fun b => sOf (c (129 + b * 6))
  here := fun b => bOf (c (129 + b * 6 + 1))
  keen := fun b => bOf (c (129 + b * 6 + 2))
  room := fun b => intOf (c (129 + b * 6 + 3))
  health := fun b => intOf (c (129 + b * 6 + 4))
  foe := fun b => intOf (c (129 + b * 6 + 5)) }

structure RoomAt (c : Nat → Value) (o : Nat) : Prop where
  name : IsS (c o)
  dark : IsB (c (o + 1))
  exit : ∀ d, d < 6 → IsI (c (o + 2 + d))
  shut : ∀ d, d < 6 → IsB (c (o + 8 + d))
structure ThingAt (c : Nat → Value) (o : Nat) : Prop where
  name : IsS (c o)
  kind : IsI (c (o + 1))
  wh : IsI (c (o + 2))
  loc : IsI (c (o + 3))
  on : IsB (c (o + 4))
structure BeingAt (c : Nat → Value) (o : Nat) : Prop where
  name : IsS (c o)
  here : IsB (c (o + 1))
  keen : IsB (c (o + 2))
  room : IsI (c (o + 3))
  health : IsI (c (o + 4))
  foe : IsI (c (o + 5))

theorem cells_of {c : Nat → Value} (hr : ∀ r, r < 6 → RoomAt c (r * 14)) (ht : ∀ i, i < 9 → ThingAt c (84 + i * 5)) (hb : ∀ b, b < 6 → BeingAt c (129 + b * 6)) :
    (∀ n, n < 165 → (ofCells c).cellAt n = c n) ∧ Wf (ofCells c) := by
  refine ⟨fun n hn => ?_, ⟨fun r d hr' hd => ((hr r hr').exit d hd).bounds, fun b hb' => (hb b hb').foe.bounds⟩⟩
  by_cases h1 : n < 84
  · obtain ⟨r, j, hrj, hr6, hj⟩ : ∃ r j, n = r * 14 + j ∧ r < 6 ∧ j < 14 := ⟨n / 14, n % 14, by omega, by omega, by omega⟩
    subst hrj
    rw [Ld.at_room _ r j hr6 hj]
    have H := hr r hr6
    match j, hj with
    | 0, _ => exact H.name.eq
    | 1, _ => exact H.dark.eq
    | j + 2, hj =>
      show (if j < 6 then _ else _) = _
      by_cases h6 : j < 6
      · rw [if_pos h6]
        have := (H.exit j h6).eq
        rw [show r * 14 + 2 + j = r * 14 + (j + 2) by omega] at this
        show Value.int .i64 (intOf (c (r * 14 + 2 + j))) = _
        rw [show r * 14 + 2 + j = r * 14 + (j + 2) by omega]
        exact this
      · rw [if_neg h6]
        have := (H.shut (j - 6) (by omega)).eq
        show Value.bool (bOf (c (r * 14 + 8 + (j - 6)))) = _
        rw [show r * 14 + 8 + (j - 6) = r * 14 + (j + 2) by omega] at this ⊢
        exact this
  · by_cases h2 : n < 129
    · obtain ⟨i, j, hij, hi9, hj⟩ : ∃ i j, n = 84 + i * 5 + j ∧ i < 9 ∧ j < 5 := ⟨(n - 84) / 5, (n - 84) % 5, by omega, by omega, by omega⟩
      subst hij
      rw [Ld.at_thing _ i j hi9 hj]
      have H := ht i hi9
      match j, hj with
      | 0, _ => exact H.name.eq
      | 1, _ => exact H.kind.eq
      | 2, _ => exact H.wh.eq
      | 3, _ => exact H.loc.eq
      | 4, _ => exact H.on.eq
    · obtain ⟨i, j, hij, hi9, hj⟩ : ∃ i j, n = 129 + i * 6 + j ∧ i < 6 ∧ j < 6 := ⟨(n - 129) / 6, (n - 129) % 6, by omega, by omega, by omega⟩
      subst hij
      rw [Ld.at_being _ i j hi9 hj]
      have H := hb i hi9
      match j, hj with
      | 0, _ => exact H.name.eq
      | 1, _ => exact H.here.eq
      | 2, _ => exact H.keen.eq
      | 3, _ => exact H.room.eq
      | 4, _ => exact H.health.eq
      | 5, _ => exact H.foe.eq

/-- A list's cells, from a place on. -/
def Sub (c : Nat → Value) (o n : Nat) (l : List Value) : Prop := l.length = n ∧ ∀ j, j < n → l[j]? = some (c (o + j))
theorem Sub.cut {c : Nat → Value} {o n : Nat} {l : List Value} (h : Sub c o n l) (a m : Nat) (ham : a + m ≤ n) : Sub c (o + a) m ((l.drop a).take m) := by
  refine ⟨by rw [List.length_take, List.length_drop, h.1]; omega, fun j hj => ?_⟩
  rw [List.getElem?_take, if_pos hj, List.getElem?_drop, h.2 (a + j) (by omega), Nat.add_assoc]
theorem Sub.one {c : Nat → Value} {o : Nat} {l : List Value} {v : Value} (h : Sub c o 1 l) (e : l = [v]) : c o = v := by
  have := h.2 0 (by omega)
  rw [e] at this
  simpa using this.symm

section
variable {H : Type} {enc : TypeId × Value → H} {w : World} {base : Nat} {spare : Nat → Bool} {held : Bool} {fuel : Nat} {c : Nat → Value} {o : Nat} {l : List Value}

theorem sub_int {x : Option (DataW H × List MemPlace)} (hs : Sub c o 1 l) (h : DataW.trod enc Tryz.prog w base spare held fuel 3 l = x) (hx : x.isSome = true) : IsI (c o) := by
  obtain ⟨y, rfl⟩ := Option.isSome_iff_exists.1 hx
  obtain ⟨n, e, _, wn⟩ := DataW.trod_int Tryz.underlying3 h
  exact ⟨n, hs.one e, int_bounds wn⟩
theorem sub_bool {x : Option (DataW H × List MemPlace)} (hs : Sub c o 1 l) (h : DataW.trod enc Tryz.prog w base spare held fuel 4 l = x) (hx : x.isSome = true) : IsB (c o) := by
  obtain ⟨y, rfl⟩ := Option.isSome_iff_exists.1 hx
  obtain ⟨n, e, _⟩ := DataW.trod_bool Tryz.underlying4 h
  exact ⟨n, hs.one e⟩
theorem sub_str {x : Option (DataW H × List MemPlace)} (hs : Sub c o 1 l) (h : DataW.trod enc Tryz.prog w base spare held fuel 9 l = x) (hx : x.isSome = true) : IsS (c o) := by
  obtain ⟨y, rfl⟩ := Option.isSome_iff_exists.1 hx
  obtain ⟨n, e, _⟩ := DataW.trod_string Tryz.underlying9 h
  exact ⟨n, hs.one e⟩
theorem isSome_get {α : Type} {l : List α} {n i : Nat} (h : l.length = n) (hi : i < n) : (l[i]?).isSome = true := by
  rw [List.getElem?_eq_getElem (by omega)]; rfl

theorem sub_ints {x : Option (DataW H × List MemPlace)} (hs : Sub c o 6 l) (h : DataW.trod enc Tryz.prog w base spare held fuel 31 l = x) (hx : x.isSome = true) : ∀ d, d < 6 → IsI (c (o + d)) := by
  obtain ⟨y, rfl⟩ := Option.isSome_iff_exists.1 hx
  obtain ⟨ys, m, _, _, _, hl, hf⟩ := DataW.trod_array Tryz.underlying31 h
  intro d hd
  have g := hf d hd
  rw [Tryz.cells3, Nat.mul_one] at g
  exact sub_int (hs.cut d 1 (by omega)) g (isSome_get hl hd)
theorem sub_bools {x : Option (DataW H × List MemPlace)} (hs : Sub c o 6 l) (h : DataW.trod enc Tryz.prog w base spare held fuel 32 l = x) (hx : x.isSome = true) : ∀ d, d < 6 → IsB (c (o + d)) := by
  obtain ⟨y, rfl⟩ := Option.isSome_iff_exists.1 hx
  obtain ⟨ys, m, _, _, _, hl, hf⟩ := DataW.trod_array Tryz.underlying32 h
  intro d hd
  have g := hf d hd
  rw [Tryz.cells4, Nat.mul_one] at g
  exact sub_bool (hs.cut d 1 (by omega)) g (isSome_get hl hd)

theorem sub_room {x : Option (DataW H × List MemPlace)} (hs : Sub c o 14 l) (h : DataW.trod enc Tryz.prog w base spare held fuel 34 l = x) (hx : x.isSome = true) : RoomAt c o := by
  obtain ⟨y, rfl⟩ := Option.isSome_iff_exists.1 hx
  obtain ⟨ys, m, _, _, _, hl, hf⟩ := DataW.trod_struct Tryz.underlying34 h
  have g0 : DataW.trod enc Tryz.prog w base spare held m 9 ((l.drop 0).take (Tryz.prog.cellsOf 9)) = ys[0]? := hf 0 _ rfl
  rw [Tryz.cells9] at g0
  have g1 : DataW.trod enc Tryz.prog w base spare held m 4 ((l.drop 1).take (Tryz.prog.cellsOf 4)) = ys[1]? := hf 1 _ rfl
  rw [Tryz.cells4] at g1
  have g2 : DataW.trod enc Tryz.prog w base spare held m 31 ((l.drop 2).take (Tryz.prog.cellsOf 31)) = ys[2]? := hf 2 _ rfl
  rw [Tryz.cellsInts] at g2
  have g3 : DataW.trod enc Tryz.prog w base spare held m 32 ((l.drop 8).take (Tryz.prog.cellsOf 32)) = ys[3]? := hf 3 _ rfl
  rw [Tryz.cellsBools] at g3
  exact ⟨sub_str (hs.cut 0 1 (by omega)) g0 (isSome_get hl (by decide)), sub_bool (hs.cut 1 1 (by omega)) g1 (isSome_get hl (by decide)), sub_ints (hs.cut 2 6 (by omega)) g2 (isSome_get hl (by decide)), sub_bools (hs.cut 8 6 (by omega)) g3 (isSome_get hl (by decide))⟩
theorem sub_thing {x : Option (DataW H × List MemPlace)} (hs : Sub c o 5 l) (h : DataW.trod enc Tryz.prog w base spare held fuel 37 l = x) (hx : x.isSome = true) : ThingAt c o := by
  obtain ⟨y, rfl⟩ := Option.isSome_iff_exists.1 hx
  obtain ⟨ys, m, _, _, _, hl, hf⟩ := DataW.trod_struct Tryz.underlying37 h
  have g0 : DataW.trod enc Tryz.prog w base spare held m 9 ((l.drop 0).take (Tryz.prog.cellsOf 9)) = ys[0]? := hf 0 _ rfl
  rw [Tryz.cells9] at g0
  have g1 : DataW.trod enc Tryz.prog w base spare held m 3 ((l.drop 1).take (Tryz.prog.cellsOf 3)) = ys[1]? := hf 1 _ rfl
  rw [Tryz.cells3] at g1
  have g2 : DataW.trod enc Tryz.prog w base spare held m 3 ((l.drop 2).take (Tryz.prog.cellsOf 3)) = ys[2]? := hf 2 _ rfl
  rw [Tryz.cells3] at g2
  have g3 : DataW.trod enc Tryz.prog w base spare held m 3 ((l.drop 3).take (Tryz.prog.cellsOf 3)) = ys[3]? := hf 3 _ rfl
  rw [Tryz.cells3] at g3
  have g4 : DataW.trod enc Tryz.prog w base spare held m 4 ((l.drop 4).take (Tryz.prog.cellsOf 4)) = ys[4]? := hf 4 _ rfl
  rw [Tryz.cells4] at g4
  exact ⟨sub_str (hs.cut 0 1 (by omega)) g0 (isSome_get hl (by decide)), sub_int (hs.cut 1 1 (by omega)) g1 (isSome_get hl (by decide)), sub_int (hs.cut 2 1 (by omega)) g2 (isSome_get hl (by decide)), sub_int (hs.cut 3 1 (by omega)) g3 (isSome_get hl (by decide)), sub_bool (hs.cut 4 1 (by omega)) g4 (isSome_get hl (by decide))⟩
theorem sub_being {x : Option (DataW H × List MemPlace)} (hs : Sub c o 6 l) (h : DataW.trod enc Tryz.prog w base spare held fuel 40 l = x) (hx : x.isSome = true) : BeingAt c o := by
  obtain ⟨y, rfl⟩ := Option.isSome_iff_exists.1 hx
  obtain ⟨ys, m, _, _, _, hl, hf⟩ := DataW.trod_struct Tryz.underlying40 h
  have g0 : DataW.trod enc Tryz.prog w base spare held m 9 ((l.drop 0).take (Tryz.prog.cellsOf 9)) = ys[0]? := hf 0 _ rfl
  rw [Tryz.cells9] at g0
  have g1 : DataW.trod enc Tryz.prog w base spare held m 4 ((l.drop 1).take (Tryz.prog.cellsOf 4)) = ys[1]? := hf 1 _ rfl
  rw [Tryz.cells4] at g1
  have g2 : DataW.trod enc Tryz.prog w base spare held m 4 ((l.drop 2).take (Tryz.prog.cellsOf 4)) = ys[2]? := hf 2 _ rfl
  rw [Tryz.cells4] at g2
  have g3 : DataW.trod enc Tryz.prog w base spare held m 3 ((l.drop 3).take (Tryz.prog.cellsOf 3)) = ys[3]? := hf 3 _ rfl
  rw [Tryz.cells3] at g3
  have g4 : DataW.trod enc Tryz.prog w base spare held m 3 ((l.drop 4).take (Tryz.prog.cellsOf 3)) = ys[4]? := hf 4 _ rfl
  rw [Tryz.cells3] at g4
  have g5 : DataW.trod enc Tryz.prog w base spare held m 3 ((l.drop 5).take (Tryz.prog.cellsOf 3)) = ys[5]? := hf 5 _ rfl
  rw [Tryz.cells3] at g5
  exact ⟨sub_str (hs.cut 0 1 (by omega)) g0 (isSome_get hl (by decide)), sub_bool (hs.cut 1 1 (by omega)) g1 (isSome_get hl (by decide)), sub_bool (hs.cut 2 1 (by omega)) g2 (isSome_get hl (by decide)), sub_int (hs.cut 3 1 (by omega)) g3 (isSome_get hl (by decide)), sub_int (hs.cut 4 1 (by omega)) g4 (isSome_get hl (by decide)), sub_int (hs.cut 5 1 (by omega)) g5 (isSome_get hl (by decide))⟩

set_option maxRecDepth 100000 in
/-- A land by value, opened. -/
theorem open_land {r : Reach} {b0 : Nat} {v : Value} {d : DataW H} {p : List MemPlace} (hv : Value.okWide Tryz.prog w r b0 43 v) (h : DataW.Trod enc Tryz.prog w base spare held 43 v d p) :
    ∃ L : Ld, v = .agg L.cells ∧ Wf L := by
  obtain ⟨cs, rfl, hsz⟩ := okWide_struct Tryz.underlying43 hv
  rw [Tryz.cellsLand] at hsz
  obtain ⟨fuel, hf⟩ := h
  obtain ⟨ys, m, _, _, _, hl, hf⟩ := DataW.trod_struct Tryz.underlying43 hf
  have g0 : DataW.trod enc Tryz.prog w base spare held m 35 ((cs.toList.drop 0).take (Tryz.prog.cellsOf 35)) = ys[0]? := hf 0 _ rfl
  rw [Tryz.cellsRooms] at g0
  have g1 : DataW.trod enc Tryz.prog w base spare held m 38 ((cs.toList.drop 84).take (Tryz.prog.cellsOf 38)) = ys[1]? := hf 1 _ rfl
  rw [Tryz.cellsThings] at g1
  have g2 : DataW.trod enc Tryz.prog w base spare held m 41 ((cs.toList.drop 129).take (Tryz.prog.cellsOf 41)) = ys[2]? := hf 2 _ rfl
  rw [Tryz.cellsBeings] at g2
  have hs : Sub (fun n => cs.getD n undef) 0 165 cs.toList := ⟨by simpa using hsz, fun j hj => by simp [hsz, hj]⟩
  have s0 := hs.cut 0 84 (by omega)
  have s1 := hs.cut 84 45 (by omega)
  have s2 := hs.cut 129 36 (by omega)
  obtain ⟨y0, h0⟩ := Option.isSome_iff_exists.1 (isSome_get (i := 0) hl (by decide))
  obtain ⟨y1, h1⟩ := Option.isSome_iff_exists.1 (isSome_get (i := 1) hl (by decide))
  obtain ⟨y2, h2⟩ := Option.isSome_iff_exists.1 (isSome_get (i := 2) hl (by decide))
  rw [h0] at g0
  rw [h1] at g1
  rw [h2] at g2
  obtain ⟨z0, _, _, _, _, l0, f0⟩ := DataW.trod_array Tryz.underlying35 g0
  obtain ⟨z1, _, _, _, _, l1, f1⟩ := DataW.trod_array Tryz.underlying38 g1
  obtain ⟨z2, _, _, _, _, l2, f2⟩ := DataW.trod_array Tryz.underlying41 g2
  have K := cells_of (c := fun n => cs.getD n undef) (fun r hr => by
      have g := f0 r hr
      rw [Tryz.cellsRoom] at g
      have := sub_room (s0.cut (r * 14) 14 (by omega)) g (isSome_get l0 hr)
      simpa using this) (fun i hi => by
      have g := f1 i hi
      rw [Tryz.cellsThing] at g
      have := sub_thing (s1.cut (i * 5) 5 (by omega)) g (isSome_get l1 hi)
      simpa using this) (fun b hb => by
      have g := f2 b hb
      rw [Tryz.cellsBeing] at g
      have := sub_being (s2.cut (b * 6) 6 (by omega)) g (isSome_get l2 hb)
      simpa using this)
  refine ⟨_, congrArg Value.agg ?_, K.2⟩
  apply Array.ext_getElem?
  intro n
  by_cases hn : n < 165
  · rw [Ld.get _ n hn, K.1 n hn]
    simp [hsz, hn]
  · rw [Array.getElem?_eq_none (by omega), Array.getElem?_eq_none (by rw [Ld.size]; omega)]
end

end Go.Proofs.YtncgcejlkmoliaaGreatDoor
