/-
  Tables of texts as they were laid.
-/
import Derived.Test.YtaifjndkgfffpaaGreatDoorMgB
import Derived.Test.YtaifjndkgfffpaaGreatDoorBsOpen
import Derived.Lay
import Derived.SevenTiedAt
import Derived.Stop.Joined
import Derived.Deep.DeepHandedRow
import Derived.Test.YtaifjndkgfffpaaGreatDoorMgA
import Derived.Test.YtaifjndkgfffpaaGreatDoorCards
import Derived.Test.YtaifjndkgfffpaaGreatDoorTie
import Derived.Test.YtaifjndkgfffpaaGreatDoorMgF
import Derived.Test.YtaifjndkgfffpaaGreatDoorRuActA
import Derived.Test.YtaifjndkgfffpaaGreatDoorMgN
namespace Go.Proofs.YtaifjndkgfffpaaGreatDoor
open Go.ChangeShapes Go.WideShapes Go.ChangeAt Go.RowKit
open Go.ChangeMaps (open_string shut_string)
set_option linter.unusedVariables false

/-- A list of texts as a datum. -/
def dtexts {H : Type} (l : List (List UInt8)) : List (DataW H) := l.map fun t => .lit (.string t)

/-- An array of texts that reads as these: its cells. -/
theorem cells_of_texts {W : World} {base : Nat} {sp : Nat → Bool} {held : Bool} {fuel : Nat} {t : TypeId} {cs : List Value} {q : List MemPlace} {l : List (List UInt8)} {n : Nat} {H : Type} {enc : TypeId × Value → H}
    (ht : Tryz.prog.underlying t = some (.array n 9)) (hn : l.length = n) (hc : Tryz.prog.cellsOf t = n) (h : DataW.trod enc Tryz.prog W base sp held fuel t cs = some (.agg (dtexts l), q)) : cs = l.map fun s => Value.string (bs s) := by
  obtain ⟨xs, m, _, ex, hlen, hl, hel⟩ := DataW.trod_array ht h
  rw [hc] at hlen
  simp only [Prod.mk.injEq, DataW.agg.injEq] at ex
  apply List.ext_getElem?
  intro i
  by_cases hi : i < n
  · have hE := hel i hi
    rw [Tryz.cells9, Nat.mul_one, List.getElem?_eq_getElem (by omega)] at hE
    obtain ⟨z, e1, e2, _⟩ := DataW.trod_string Tryz.underlying9 hE
    have e4 : (dtexts (H := H) l)[i]? = (xs.map (·.1))[i]? := by rw [ex.1]
    simp only [dtexts] at e4
    rw [List.getElem?_map, List.getElem?_map, List.getElem?_eq_getElem (by omega : i < xs.length), List.getElem?_eq_getElem (by omega : i < l.length), e2] at e4
    simp only [Option.map_some, Option.some.injEq, DataW.lit.injEq, Lit.string.injEq] at e4
    have h0 : ((cs.drop i).take 1)[0]? = some (.string z) := by rw [e1]; rfl
    rw [List.getElem?_map, List.getElem?_eq_getElem (by omega : i < l.length)]
    simp at h0
    rw [h0, Option.map_some, e4, bs_of]
  · rw [List.getElem?_eq_none (by omega), List.getElem?_eq_none (by simp; omega)]

theorem block_of_var {W : World} {name : String} {g : Nat} {cs : Array Value} (hg : Tryz.prog.globalNamed name = some g) (hv : W.var? Tryz.prog name = some cs) : ∃ t fr, W.heap[g]? = some (.cells cs t fr) := by
  unfold World.var? at hv
  rw [hg] at hv
  simp only [Option.bind_some] at hv
  split at hv
  · rename_i c t fr h
    cases hv
    exact ⟨t, fr, h⟩
  · cases hv

theorem Tryz.cellsVerbs : Tryz.prog.cellsOf 84 = 21 := by kernel_rfl

end Go.Proofs.YtaifjndkgfffpaaGreatDoor
/-
  How a land that comes in is read, and how a law's row is closed where nothing old has turned.
-/
namespace Go.Proofs.YtaifjndkgfffpaaGreatDoor
open Go.ChangeShapes Go.WideShapes Go.ChangeAt Go.RowKit
set_option linter.unusedVariables false

theorem Tryz.cellsLand : Tryz.prog.cellsOf 34 = 165 := by kernel_rfl
theorem Tryz.cellsRooms : Tryz.prog.cellsOf 26 = 84 := by kernel_rfl
theorem Tryz.cellsRoom : Tryz.prog.cellsOf 25 = 14 := by kernel_rfl
theorem Tryz.cellsThings : Tryz.prog.cellsOf 29 = 45 := by kernel_rfl
theorem Tryz.cellsThing : Tryz.prog.cellsOf 28 = 5 := by kernel_rfl
theorem Tryz.cellsBeings : Tryz.prog.cellsOf 32 = 36 := by kernel_rfl
theorem Tryz.cellsBeing : Tryz.prog.cellsOf 31 = 6 := by kernel_rfl
theorem Tryz.cellsInts : Tryz.prog.cellsOf 22 = 6 := by kernel_rfl
theorem Tryz.cellsBools : Tryz.prog.cellsOf 23 = 6 := by kernel_rfl
theorem Tryz.recLand : Tryz.prog.readableRec 34 = true := by kernel_rfl
def sOf : Value → ByteArray
  | .string s => s
  | _ => ⟨#[]⟩
def bOf : Value → Bool
  | .bool b => b
  | _ => false
def IsS (v : Value) : Prop := ∃ s, v = .string s
def IsB (v : Value) : Prop := ∃ b, v = .bool b
def IsI (v : Value) : Prop := ∃ n : Int, v = .int .i64 n ∧ -9223372036854775808 ≤ n ∧ n ≤ 9223372036854775807
theorem IsS.eq {v : Value} (h : IsS v) : .string (sOf v) = v := by obtain ⟨s, rfl⟩ := h; rfl
theorem IsB.eq {v : Value} (h : IsB v) : .bool (bOf v) = v := by obtain ⟨s, rfl⟩ := h; rfl
theorem IsI.eq {v : Value} (h : IsI v) : .int .i64 (intOf v) = v := by obtain ⟨s, rfl, _⟩ := h; rfl
theorem IsI.bounds {v : Value} (h : IsI v) : -9223372036854775808 ≤ intOf v ∧ intOf v ≤ 9223372036854775807 := by obtain ⟨s, rfl, h⟩ := h; exact h

/-- The land that cells tell of. -/
def ofCells (c : Nat → Value) : Ld := {
  rname := fun r => sOf (c (r * 14))
  dark := fun r => bOf (c (r * 14 + 1))
  exit := fun r d => intOf (c (r * 14 + 2 + d))
  shut := fun r d => bOf (c (r * 14 + 8 + d))
  tname := fun i => sOf (c (84 + i * 5))
  kind := fun i => intOf (c (84 + i * 5 + 1))
  wh := fun i => intOf (c (84 + i * 5 + 2))
  loc := fun i => intOf (c (84 + i * 5 + 3))
  on := fun i => bOf (c (84 + i * 5 + 4))
  bname := fun b => sOf (c (129 + b * 6))
  here := fun b => bOf (c (129 + b * 6 + 1))
  keen := fun b => bOf (c (129 + b * 6 + 2))
  room := fun b => intOf (c (129 + b * 6 + 3))
  health := fun b => intOf (c (129 + b * 6 + 4))
  foe := fun b => intOf (c (129 + b * 6 + 5)) }

structure RoomAt (c : Nat → Value) (o : Nat) : Prop where
  name : IsS (c o)
  dark : IsB (c (o + 1))
  exit : ∀ d, d < 6 → IsI (c (o + 2 + d))
  shut : ∀ d, d < 6 → IsB (c (o + 8 + d))
structure ThingAt (c : Nat → Value) (o : Nat) : Prop where
  name : IsS (c o)
  kind : IsI (c (o + 1))
  wh : IsI (c (o + 2))
  loc : IsI (c (o + 3))
  on : IsB (c (o + 4))
structure BeingAt (c : Nat → Value) (o : Nat) : Prop where
  name : IsS (c o)
  here : IsB (c (o + 1))
  keen : IsB (c (o + 2))
  room : IsI (c (o + 3))
  health : IsI (c (o + 4))
  foe : IsI (c (o + 5))

theorem cells_of {c : Nat → Value} (hr : ∀ r, r < 6 → RoomAt c (r * 14)) (ht : ∀ i, i < 9 → ThingAt c (84 + i * 5)) (hb : ∀ b, b < 6 → BeingAt c (129 + b * 6)) :
    (∀ n, n < 165 → (ofCells c).cellAt n = c n) ∧ Wf (ofCells c) := by
  refine ⟨fun n hn => ?_, ⟨fun r d hr' hd => ((hr r hr').exit d hd).bounds, fun b hb' => (hb b hb').foe.bounds⟩⟩
  by_cases h1 : n < 84
  · obtain ⟨r, j, hrj, hr6, hj⟩ : ∃ r j, n = r * 14 + j ∧ r < 6 ∧ j < 14 := ⟨n / 14, n % 14, by omega, by omega, by omega⟩
    subst hrj
    rw [Ld.at_room _ r j hr6 hj]
    have H := hr r hr6
    match j, hj with
    | 0, _ => exact H.name.eq
    | 1, _ => exact H.dark.eq
    | j + 2, hj =>
      show (if j < 6 then _ else _) = _
      by_cases h6 : j < 6
      · rw [if_pos h6]
        have := (H.exit j h6).eq
        rw [show r * 14 + 2 + j = r * 14 + (j + 2) by omega] at this
        show Value.int .i64 (intOf (c (r * 14 + 2 + j))) = _
        rw [show r * 14 + 2 + j = r * 14 + (j + 2) by omega]
        exact this
      · rw [if_neg h6]
        have := (H.shut (j - 6) (by omega)).eq
        show Value.bool (bOf (c (r * 14 + 8 + (j - 6)))) = _
        rw [show r * 14 + 8 + (j - 6) = r * 14 + (j + 2) by omega] at this ⊢
        exact this
  · by_cases h2 : n < 129
    · obtain ⟨i, j, hij, hi9, hj⟩ : ∃ i j, n = 84 + i * 5 + j ∧ i < 9 ∧ j < 5 := ⟨(n - 84) / 5, (n - 84) % 5, by omega, by omega, by omega⟩
      subst hij
      rw [Ld.at_thing _ i j hi9 hj]
      have H := ht i hi9
      match j, hj with
      | 0, _ => exact H.name.eq
      | 1, _ => exact H.kind.eq
      | 2, _ => exact H.wh.eq
      | 3, _ => exact H.loc.eq
      | 4, _ => exact H.on.eq
    · obtain ⟨i, j, hij, hi9, hj⟩ : ∃ i j, n = 129 + i * 6 + j ∧ i < 6 ∧ j < 6 := ⟨(n - 129) / 6, (n - 129) % 6, by omega, by omega, by omega⟩
      subst hij
      rw [Ld.at_being _ i j hi9 hj]
      have H := hb i hi9
      match j, hj with
      | 0, _ => exact H.name.eq
      | 1, _ => exact H.here.eq
      | 2, _ => exact H.keen.eq
      | 3, _ => exact H.room.eq
      | 4, _ => exact H.health.eq
      | 5, _ => exact H.foe.eq

/-- A list's cells, from a place on. -/
def Sub (c : Nat → Value) (o n : Nat) (l : List Value) : Prop := l.length = n ∧ ∀ j, j < n → l[j]? = some (c (o + j))
theorem Sub.cut {c : Nat → Value} {o n : Nat} {l : List Value} (h : Sub c o n l) (a m : Nat) (ham : a + m ≤ n) : Sub c (o + a) m ((l.drop a).take m) := by
  refine ⟨by rw [List.length_take, List.length_drop, h.1]; omega, fun j hj => ?_⟩
  rw [List.getElem?_take, if_pos hj, List.getElem?_drop, h.2 (a + j) (by omega), Nat.add_assoc]
theorem Sub.one {c : Nat → Value} {o : Nat} {l : List Value} {v : Value} (h : Sub c o 1 l) (e : l = [v]) : c o = v := by
  have := h.2 0 (by omega)
  rw [e] at this
  simpa using this.symm

section
variable {H : Type} {enc : TypeId × Value → H} {w : World} {base : Nat} {spare : Nat → Bool} {held : Bool} {fuel : Nat} {c : Nat → Value} {o : Nat} {l : List Value}

theorem sub_int {x : Option (DataW H × List MemPlace)} (hs : Sub c o 1 l) (h : DataW.trod enc Tryz.prog w base spare held fuel 3 l = x) (hx : x.isSome = true) : IsI (c o) := by
  obtain ⟨y, rfl⟩ := Option.isSome_iff_exists.1 hx
  obtain ⟨n, e, _, wn⟩ := DataW.trod_int Tryz.underlying3 h
  exact ⟨n, hs.one e, int_bounds wn⟩
theorem sub_bool {x : Option (DataW H × List MemPlace)} (hs : Sub c o 1 l) (h : DataW.trod enc Tryz.prog w base spare held fuel 4 l = x) (hx : x.isSome = true) : IsB (c o) := by
  obtain ⟨y, rfl⟩ := Option.isSome_iff_exists.1 hx
  obtain ⟨n, e, _⟩ := DataW.trod_bool Tryz.underlying4 h
  exact ⟨n, hs.one e⟩
theorem sub_str {x : Option (DataW H × List MemPlace)} (hs : Sub c o 1 l) (h : DataW.trod enc Tryz.prog w base spare held fuel 9 l = x) (hx : x.isSome = true) : IsS (c o) := by
  obtain ⟨y, rfl⟩ := Option.isSome_iff_exists.1 hx
  obtain ⟨n, e, _⟩ := DataW.trod_string Tryz.underlying9 h
  exact ⟨n, hs.one e⟩
theorem isSome_get {α : Type} {l : List α} {n i : Nat} (h : l.length = n) (hi : i < n) : (l[i]?).isSome = true := by
  rw [List.getElem?_eq_getElem (by omega)]; rfl

theorem sub_ints {x : Option (DataW H × List MemPlace)} (hs : Sub c o 6 l) (h : DataW.trod enc Tryz.prog w base spare held fuel 22 l = x) (hx : x.isSome = true) : ∀ d, d < 6 → IsI (c (o + d)) := by
  obtain ⟨y, rfl⟩ := Option.isSome_iff_exists.1 hx
  obtain ⟨ys, m, _, _, _, hl, hf⟩ := DataW.trod_array Tryz.underlying22 h
  intro d hd
  have g := hf d hd
  rw [Tryz.cells3, Nat.mul_one] at g
  exact sub_int (hs.cut d 1 (by omega)) g (isSome_get hl hd)
theorem sub_bools {x : Option (DataW H × List MemPlace)} (hs : Sub c o 6 l) (h : DataW.trod enc Tryz.prog w base spare held fuel 23 l = x) (hx : x.isSome = true) : ∀ d, d < 6 → IsB (c (o + d)) := by
  obtain ⟨y, rfl⟩ := Option.isSome_iff_exists.1 hx
  obtain ⟨ys, m, _, _, _, hl, hf⟩ := DataW.trod_array Tryz.underlying23 h
  intro d hd
  have g := hf d hd
  rw [Tryz.cells4, Nat.mul_one] at g
  exact sub_bool (hs.cut d 1 (by omega)) g (isSome_get hl hd)

theorem sub_room {x : Option (DataW H × List MemPlace)} (hs : Sub c o 14 l) (h : DataW.trod enc Tryz.prog w base spare held fuel 25 l = x) (hx : x.isSome = true) : RoomAt c o := by
  obtain ⟨y, rfl⟩ := Option.isSome_iff_exists.1 hx
  obtain ⟨ys, m, _, _, _, hl, hf⟩ := DataW.trod_struct Tryz.underlying25 h
  have g0 : DataW.trod enc Tryz.prog w base spare held m 9 ((l.drop 0).take (Tryz.prog.cellsOf 9)) = ys[0]? := hf 0 _ rfl
  rw [Tryz.cells9] at g0
  have g1 : DataW.trod enc Tryz.prog w base spare held m 4 ((l.drop 1).take (Tryz.prog.cellsOf 4)) = ys[1]? := hf 1 _ rfl
  rw [Tryz.cells4] at g1
  have g2 : DataW.trod enc Tryz.prog w base spare held m 22 ((l.drop 2).take (Tryz.prog.cellsOf 22)) = ys[2]? := hf 2 _ rfl
  rw [Tryz.cellsInts] at g2
  have g3 : DataW.trod enc Tryz.prog w base spare held m 23 ((l.drop 8).take (Tryz.prog.cellsOf 23)) = ys[3]? := hf 3 _ rfl
  rw [Tryz.cellsBools] at g3
  exact ⟨sub_str (hs.cut 0 1 (by omega)) g0 (isSome_get hl (by decide)), sub_bool (hs.cut 1 1 (by omega)) g1 (isSome_get hl (by decide)), sub_ints (hs.cut 2 6 (by omega)) g2 (isSome_get hl (by decide)), sub_bools (hs.cut 8 6 (by omega)) g3 (isSome_get hl (by decide))⟩
theorem sub_thing {x : Option (DataW H × List MemPlace)} (hs : Sub c o 5 l) (h : DataW.trod enc Tryz.prog w base spare held fuel 28 l = x) (hx : x.isSome = true) : ThingAt c o := by
  obtain ⟨y, rfl⟩ := Option.isSome_iff_exists.1 hx
  obtain ⟨ys, m, _, _, _, hl, hf⟩ := DataW.trod_struct Tryz.underlying28 h
  have g0 : DataW.trod enc Tryz.prog w base spare held m 9 ((l.drop 0).take (Tryz.prog.cellsOf 9)) = ys[0]? := hf 0 _ rfl
  rw [Tryz.cells9] at g0
  have g1 : DataW.trod enc Tryz.prog w base spare held m 3 ((l.drop 1).take (Tryz.prog.cellsOf 3)) = ys[1]? := hf 1 _ rfl
  rw [Tryz.cells3] at g1
  have g2 : DataW.trod enc Tryz.prog w base spare held m 3 ((l.drop 2).take (Tryz.prog.cellsOf 3)) = ys[2]? := hf 2 _ rfl
  rw [Tryz.cells3] at g2
  have g3 : DataW.trod enc Tryz.prog w base spare held m 3 ((l.drop 3).take (Tryz.prog.cellsOf 3)) = ys[3]? := hf 3 _ rfl
  rw [Tryz.cells3] at g3
  have g4 : DataW.trod enc Tryz.prog w base spare held m 4 ((l.drop 4).take (Tryz.prog.cellsOf 4)) = ys[4]? := hf 4 _ rfl
  rw [Tryz.cells4] at g4
  exact ⟨sub_str (hs.cut 0 1 (by omega)) g0 (isSome_get hl (by decide)), sub_int (hs.cut 1 1 (by omega)) g1 (isSome_get hl (by decide)), sub_int (hs.cut 2 1 (by omega)) g2 (isSome_get hl (by decide)), sub_int (hs.cut 3 1 (by omega)) g3 (isSome_get hl (by decide)), sub_bool (hs.cut 4 1 (by omega)) g4 (isSome_get hl (by decide))⟩
theorem sub_being {x : Option (DataW H × List MemPlace)} (hs : Sub c o 6 l) (h : DataW.trod enc Tryz.prog w base spare held fuel 31 l = x) (hx : x.isSome = true) : BeingAt c o := by
  obtain ⟨y, rfl⟩ := Option.isSome_iff_exists.1 hx
  obtain ⟨ys, m, _, _, _, hl, hf⟩ := DataW.trod_struct Tryz.underlying31 h
  have g0 : DataW.trod enc Tryz.prog w base spare held m 9 ((l.drop 0).take (Tryz.prog.cellsOf 9)) = ys[0]? := hf 0 _ rfl
  rw [Tryz.cells9] at g0
  have g1 : DataW.trod enc Tryz.prog w base spare held m 4 ((l.drop 1).take (Tryz.prog.cellsOf 4)) = ys[1]? := hf 1 _ rfl
  rw [Tryz.cells4] at g1
  have g2 : DataW.trod enc Tryz.prog w base spare held m 4 ((l.drop 2).take (Tryz.prog.cellsOf 4)) = ys[2]? := hf 2 _ rfl
  rw [Tryz.cells4] at g2
  have g3 : DataW.trod enc Tryz.prog w base spare held m 3 ((l.drop 3).take (Tryz.prog.cellsOf 3)) = ys[3]? := hf 3 _ rfl
  rw [Tryz.cells3] at g3
  have g4 : DataW.trod enc Tryz.prog w base spare held m 3 ((l.drop 4).take (Tryz.prog.cellsOf 3)) = ys[4]? := hf 4 _ rfl
  rw [Tryz.cells3] at g4
  have g5 : DataW.trod enc Tryz.prog w base spare held m 3 ((l.drop 5).take (Tryz.prog.cellsOf 3)) = ys[5]? := hf 5 _ rfl
  rw [Tryz.cells3] at g5
  exact ⟨sub_str (hs.cut 0 1 (by omega)) g0 (isSome_get hl (by decide)), sub_bool (hs.cut 1 1 (by omega)) g1 (isSome_get hl (by decide)), sub_bool (hs.cut 2 1 (by omega)) g2 (isSome_get hl (by decide)), sub_int (hs.cut 3 1 (by omega)) g3 (isSome_get hl (by decide)), sub_int (hs.cut 4 1 (by omega)) g4 (isSome_get hl (by decide)), sub_int (hs.cut 5 1 (by omega)) g5 (isSome_get hl (by decide))⟩

set_option maxRecDepth 100000 in
/-- A land by value, opened. -/
theorem open_land {r : Reach} {b0 : Nat} {v : Value} {d : DataW H} {p : List MemPlace} (hv : Value.okWide Tryz.prog w r b0 34 v) (h : DataW.Trod enc Tryz.prog w base spare held 34 v d p) :
    ∃ L : Ld, v = .agg L.cells ∧ Wf L := by
  obtain ⟨cs, rfl, hsz⟩ := okWide_struct Tryz.underlying34 hv
  rw [Tryz.cellsLand] at hsz
  obtain ⟨fuel, hf⟩ := h
  obtain ⟨ys, m, _, _, _, hl, hf⟩ := DataW.trod_struct Tryz.underlying34 hf
  have g0 : DataW.trod enc Tryz.prog w base spare held m 26 ((cs.toList.drop 0).take (Tryz.prog.cellsOf 26)) = ys[0]? := hf 0 _ rfl
  rw [Tryz.cellsRooms] at g0
  have g1 : DataW.trod enc Tryz.prog w base spare held m 29 ((cs.toList.drop 84).take (Tryz.prog.cellsOf 29)) = ys[1]? := hf 1 _ rfl
  rw [Tryz.cellsThings] at g1
  have g2 : DataW.trod enc Tryz.prog w base spare held m 32 ((cs.toList.drop 129).take (Tryz.prog.cellsOf 32)) = ys[2]? := hf 2 _ rfl
  rw [Tryz.cellsBeings] at g2
  have hs : Sub (fun n => cs.getD n undef) 0 165 cs.toList := ⟨by simpa using hsz, fun j hj => by simp [hsz, hj]⟩
  have s0 := hs.cut 0 84 (by omega)
  have s1 := hs.cut 84 45 (by omega)
  have s2 := hs.cut 129 36 (by omega)
  obtain ⟨y0, h0⟩ := Option.isSome_iff_exists.1 (isSome_get (i := 0) hl (by decide))
  obtain ⟨y1, h1⟩ := Option.isSome_iff_exists.1 (isSome_get (i := 1) hl (by decide))
  obtain ⟨y2, h2⟩ := Option.isSome_iff_exists.1 (isSome_get (i := 2) hl (by decide))
  rw [h0] at g0
  rw [h1] at g1
  rw [h2] at g2
  obtain ⟨z0, _, _, _, _, l0, f0⟩ := DataW.trod_array Tryz.underlying26 g0
  obtain ⟨z1, _, _, _, _, l1, f1⟩ := DataW.trod_array Tryz.underlying29 g1
  obtain ⟨z2, _, _, _, _, l2, f2⟩ := DataW.trod_array Tryz.underlying32 g2
  have K := cells_of (c := fun n => cs.getD n undef) (fun r hr => by
      have g := f0 r hr
      rw [Tryz.cellsRoom] at g
      have := sub_room (s0.cut (r * 14) 14 (by omega)) g (isSome_get l0 hr)
      simpa using this) (fun i hi => by
      have g := f1 i hi
      rw [Tryz.cellsThing] at g
      have := sub_thing (s1.cut (i * 5) 5 (by omega)) g (isSome_get l1 hi)
      simpa using this) (fun b hb => by
      have g := f2 b hb
      rw [Tryz.cellsBeing] at g
      have := sub_being (s2.cut (b * 6) 6 (by omega)) g (isSome_get l2 hb)
      simpa using this)
  refine ⟨_, congrArg Value.agg ?_, K.2⟩
  apply Array.ext_getElem?
  intro n
  by_cases hn : n < 165
  · rw [Ld.get _ n hn, K.1 n hn]
    simp [hsz, hn]
  · rw [Array.getElem?_eq_none (by omega), Array.getElem?_eq_none (by rw [Ld.size]; omega)]
end

end Go.Proofs.YtaifjndkgfffpaaGreatDoor
/-
  A land that comes in, of bulk at most 1048576: its names are not too long.
-/
namespace Go.Proofs.YtaifjndkgfffpaaGreatDoor
open Go.ChangeShapes Go.WideShapes Go.ChangeAt Go.RowKit
open Go.ChangeMaps (open_string shut_string)
set_option linter.unusedVariables false

theorem rbulk_mem {H : Type} : ∀ (l : List (DataW H)) (i : Nat) (d : DataW H), l[i]? = some d → Rows.uptoBulk d ≤ Rows.uptoBulkAll l
  | [], i, d, h => by simp at h
  | x :: l, 0, d, h => by
    simp at h; subst h
    simp only [Rows.uptoBulkAll]; omega
  | x :: l, i + 1, d, h => by
    have := rbulk_mem l i d (by simpa using h)
    simp only [Rows.uptoBulkAll]; omega

section
variable {H : Type} {enc : TypeId × Value → H} {w : World} {base : Nat} {spare : Nat → Bool} {held : Bool} {fuel : Nat} {c : Nat → Value} {o : Nat} {l : List Value}
theorem bulk_str {x : DataW H × List MemPlace} (hs : Sub c o 1 l) (h : DataW.trod enc Tryz.prog w base spare held fuel 9 l = some x) : ∃ z, c o = .string z ∧ z.size ≤ Rows.uptoBulk x.1 := by
  obtain ⟨z, e, e2, _⟩ := DataW.trod_string Tryz.underlying9 h
  refine ⟨z, hs.one e, ?_⟩
  rw [e2]
  simp only [Rows.uptoBulk]
  have := size_len z
  omega
theorem bulk_room {x : DataW H × List MemPlace} (hs : Sub c o 14 l) (h : DataW.trod enc Tryz.prog w base spare held fuel 25 l = some x) : ∃ z, c o = .string z ∧ z.size ≤ Rows.uptoBulk x.1 := by
  obtain ⟨ys, m, _, ex, _, hl, hf⟩ := DataW.trod_struct Tryz.underlying25 h
  have g0 : DataW.trod enc Tryz.prog w base spare held m 9 ((l.drop 0).take (Tryz.prog.cellsOf 9)) = ys[0]? := hf 0 _ rfl
  rw [Tryz.cells9] at g0
  obtain ⟨y, hy⟩ := Option.isSome_iff_exists.1 (isSome_get (i := 0) hl (by decide))
  rw [hy] at g0
  obtain ⟨z, e1, e2⟩ := bulk_str (hs.cut 0 1 (by omega)) g0
  have hm := rbulk_mem (ys.map (·.1)) 0 y.1 (by rw [List.getElem?_map, hy]; rfl)
  rw [ex]
  simp only [Rows.uptoBulk]
  exact ⟨z, e1, by omega⟩
theorem bulk_thing {x : DataW H × List MemPlace} (hs : Sub c o 5 l) (h : DataW.trod enc Tryz.prog w base spare held fuel 28 l = some x) : ∃ z, c o = .string z ∧ z.size ≤ Rows.uptoBulk x.1 := by
  obtain ⟨ys, m, _, ex, _, hl, hf⟩ := DataW.trod_struct Tryz.underlying28 h
  have g0 : DataW.trod enc Tryz.prog w base spare held m 9 ((l.drop 0).take (Tryz.prog.cellsOf 9)) = ys[0]? := hf 0 _ rfl
  rw [Tryz.cells9] at g0
  obtain ⟨y, hy⟩ := Option.isSome_iff_exists.1 (isSome_get (i := 0) hl (by decide))
  rw [hy] at g0
  obtain ⟨z, e1, e2⟩ := bulk_str (hs.cut 0 1 (by omega)) g0
  have hm := rbulk_mem (ys.map (·.1)) 0 y.1 (by rw [List.getElem?_map, hy]; rfl)
  rw [ex]
  simp only [Rows.uptoBulk]
  exact ⟨z, e1, by omega⟩
theorem bulk_being {x : DataW H × List MemPlace} (hs : Sub c o 6 l) (h : DataW.trod enc Tryz.prog w base spare held fuel 31 l = some x) : ∃ z, c o = .string z ∧ z.size ≤ Rows.uptoBulk x.1 := by
  obtain ⟨ys, m, _, ex, _, hl, hf⟩ := DataW.trod_struct Tryz.underlying31 h
  have g0 : DataW.trod enc Tryz.prog w base spare held m 9 ((l.drop 0).take (Tryz.prog.cellsOf 9)) = ys[0]? := hf 0 _ rfl
  rw [Tryz.cells9] at g0
  obtain ⟨y, hy⟩ := Option.isSome_iff_exists.1 (isSome_get (i := 0) hl (by decide))
  rw [hy] at g0
  obtain ⟨z, e1, e2⟩ := bulk_str (hs.cut 0 1 (by omega)) g0
  have hm := rbulk_mem (ys.map (·.1)) 0 y.1 (by rw [List.getElem?_map, hy]; rfl)
  rw [ex]
  simp only [Rows.uptoBulk]
  exact ⟨z, e1, by omega⟩

set_option maxRecDepth 100000 in
theorem land_names {L : Ld} {d : DataW H} {p : List MemPlace} (h : DataW.Trod enc Tryz.prog w base spare held 34 (.agg L.cells) d p) (hk : Rows.uptoBulk d ≤ 1048576) :
    (∀ r, r < 6 → (L.rname r).size ≤ 1048576) ∧ (∀ i, i < 9 → (L.tname i).size ≤ 1048576) ∧ (∀ b, b < 6 → (L.bname b).size ≤ 1048576) := by
  obtain ⟨fuel, hf⟩ := h
  obtain ⟨ys, m, _, ex, _, hl, hf⟩ := DataW.trod_struct Tryz.underlying34 hf
  simp only [Prod.mk.injEq] at ex
  rw [ex.1] at hk
  simp only [Rows.uptoBulk] at hk
  have hc : (Value.agg L.cells).cells = L.cells := by unfold Value.cells; rfl
  have g0 : DataW.trod enc Tryz.prog w base spare held m 26 (((Value.agg L.cells).cells.toList.drop 0).take (Tryz.prog.cellsOf 26)) = ys[0]? := hf 0 _ rfl
  rw [Tryz.cellsRooms, hc] at g0
  have g1 : DataW.trod enc Tryz.prog w base spare held m 29 (((Value.agg L.cells).cells.toList.drop 84).take (Tryz.prog.cellsOf 29)) = ys[1]? := hf 1 _ rfl
  rw [Tryz.cellsThings, hc] at g1
  have g2 : DataW.trod enc Tryz.prog w base spare held m 32 (((Value.agg L.cells).cells.toList.drop 129).take (Tryz.prog.cellsOf 32)) = ys[2]? := hf 2 _ rfl
  rw [Tryz.cellsBeings, hc] at g2
  have hs : Sub L.cellAt 0 165 L.cells.toList := ⟨by rw [Array.length_toList, L.size], fun j hj => by rw [Array.getElem?_toList, L.get j hj, Nat.zero_add]⟩
  have s0 := hs.cut 0 84 (by omega)
  have s1 := hs.cut 84 45 (by omega)
  have s2 := hs.cut 129 36 (by omega)
  simp only [Nat.zero_add] at s0 s1 s2
  obtain ⟨y0, h0⟩ := Option.isSome_iff_exists.1 (isSome_get (i := 0) hl (by decide))
  obtain ⟨y1, h1⟩ := Option.isSome_iff_exists.1 (isSome_get (i := 1) hl (by decide))
  obtain ⟨y2, h2⟩ := Option.isSome_iff_exists.1 (isSome_get (i := 2) hl (by decide))
  rw [h0] at g0
  rw [h1] at g1
  rw [h2] at g2
  have m0 := rbulk_mem (ys.map (·.1)) 0 y0.1 (by rw [List.getElem?_map, h0]; rfl)
  have m1 := rbulk_mem (ys.map (·.1)) 1 y1.1 (by rw [List.getElem?_map, h1]; rfl)
  have m2 := rbulk_mem (ys.map (·.1)) 2 y2.1 (by rw [List.getElem?_map, h2]; rfl)
  obtain ⟨z0, _, _, x0, _, l0, f0⟩ := DataW.trod_array Tryz.underlying26 g0
  obtain ⟨z1, _, _, x1, _, l1, f1⟩ := DataW.trod_array Tryz.underlying29 g1
  obtain ⟨z2, _, _, x2, _, l2, f2⟩ := DataW.trod_array Tryz.underlying32 g2
  rw [x0] at m0
  rw [x1] at m1
  rw [x2] at m2
  simp only [Rows.uptoBulk] at m0 m1 m2
  refine ⟨fun r hr => ?_, fun i hi => ?_, fun b hb => ?_⟩
  · have g := f0 r hr
    rw [Tryz.cellsRoom] at g
    obtain ⟨u, hu⟩ := Option.isSome_iff_exists.1 (isSome_get l0 hr)
    rw [hu] at g
    obtain ⟨z, e1, e2⟩ := bulk_room (s0.cut (r * 14) 14 (by omega)) g
    have mm := rbulk_mem (z0.map (·.1)) r u.1 (by rw [List.getElem?_map, hu]; rfl)
    have e3 := L.at_room r 0 hr (by omega)
    simp only [Nat.add_zero, Nat.zero_add] at e1 e3
    rw [e3] at e1
    simp only [Ld.roomCell, Value.string.injEq] at e1
    rw [e1]; omega
  · have g := f1 i hi
    rw [Tryz.cellsThing] at g
    obtain ⟨u, hu⟩ := Option.isSome_iff_exists.1 (isSome_get l1 hi)
    rw [hu] at g
    obtain ⟨z, e1, e2⟩ := bulk_thing (s1.cut (i * 5) 5 (by omega)) g
    have mm := rbulk_mem (z1.map (·.1)) i u.1 (by rw [List.getElem?_map, hu]; rfl)
    have e3 := L.at_thing i 0 hi (by omega)
    simp only [Nat.add_zero] at e1 e3
    rw [e3] at e1
    simp only [Ld.thingCell, Value.string.injEq] at e1
    rw [e1]; omega
  · have g := f2 b hb
    rw [Tryz.cellsBeing] at g
    obtain ⟨u, hu⟩ := Option.isSome_iff_exists.1 (isSome_get l2 hb)
    rw [hu] at g
    obtain ⟨z, e1, e2⟩ := bulk_being (s2.cut (b * 6) 6 (by omega)) g
    have mm := rbulk_mem (z2.map (·.1)) b u.1 (by rw [List.getElem?_map, hu]; rfl)
    have e3 := L.at_being b 0 hb (by omega)
    simp only [Nat.add_zero] at e1 e3
    rw [e3] at e1
    simp only [Ld.beingCell, Value.string.injEq] at e1
    rw [e1]; omega
end

/-! ### A land of nothing, as data. -/
def rRoomD {H : Type} : DataW H := .agg [.lit (.string []), .lit (.bool false), .agg (List.replicate 6 (.lit (.int .i64 0))), .agg (List.replicate 6 (.lit (.bool false)))]
def rThingD {H : Type} : DataW H := .agg [.lit (.string []), .lit (.int .i64 0), .lit (.int .i64 0), .lit (.int .i64 0), .lit (.bool false)]
def rBeingD {H : Type} : DataW H := .agg [.lit (.string []), .lit (.bool false), .lit (.bool false), .lit (.int .i64 0), .lit (.int .i64 0), .lit (.int .i64 0)]
def rLandD {H : Type} : DataW H := .agg [.agg (List.replicate 6 rRoomD), .agg (List.replicate 9 rThingD), .agg (List.replicate 6 rBeingD)]
end Go.Proofs.YtaifjndkgfffpaaGreatDoor
/-
  An order that comes in: how it is read; its texts are not too long.
-/
namespace Go.Proofs.YtaifjndkgfffpaaGreatDoor
open Go.ChangeShapes Go.WideShapes Go.ChangeAt Go.RowKit
open Go.ChangeMaps (open_string shut_string)
set_option linter.unusedVariables false

theorem Tryz.cellsOrder : Tryz.prog.cellsOf 36 = 6 := by kernel_rfl
theorem Tryz.recOrder : Tryz.prog.readableRec 36 = true := by kernel_rfl
def odOf (c : Nat → Value) : Od := { verb := intOf (c 0), nth := intOf (c 1), all := bOf (c 2), name := sOf (c 3), second := sOf (c 4), text := sOf (c 5) }
def rOrderD {H : Type} : DataW H := .agg [.lit (.int .i64 0), .lit (.int .i64 0), .lit (.bool false), .lit (.string []), .lit (.string []), .lit (.string [])]
def zOrd : Od := { verb := 0, nth := 0, all := false, name := ⟨#[]⟩, second := ⟨#[]⟩, text := ⟨#[]⟩ }

set_option maxRecDepth 100000 in
theorem open_order {H : Type} {enc : TypeId × Value → H} {w : World} {base : Nat} {spare : Nat → Bool} {held : Bool} {r : Reach} {b0 : Nat} {v : Value} {d : DataW H} {p : List MemPlace} (hv : Value.okWide Tryz.prog w r b0 36 v) (h : DataW.Trod enc Tryz.prog w base spare held 36 v d p) :
    ∃ O : Od, v = .agg O.cells ∧ (-9223372036854775808 ≤ O.nth ∧ O.nth ≤ 9223372036854775807) ∧ O.name.size ≤ Rows.uptoBulk d ∧ O.second.size ≤ Rows.uptoBulk d ∧ O.text.size ≤ Rows.uptoBulk d := by
  obtain ⟨cs, rfl, hsz⟩ := okWide_struct Tryz.underlying36 hv
  rw [Tryz.cellsOrder] at hsz
  obtain ⟨fuel, hf⟩ := h
  obtain ⟨ys, m, _, ex, _, hl, hf⟩ := DataW.trod_struct Tryz.underlying36 hf
  have hs : Sub (fun n => cs.getD n undef) 0 6 cs.toList := ⟨by simpa using hsz, fun j hj => by simp [hsz, hj]⟩
  have g0 : DataW.trod enc Tryz.prog w base spare held m 3 ((cs.toList.drop 0).take (Tryz.prog.cellsOf 3)) = ys[0]? := hf 0 _ rfl
  rw [Tryz.cells3] at g0
  have i0 := sub_int (hs.cut 0 1 (by omega)) g0 (isSome_get hl (by decide))
  have g1 : DataW.trod enc Tryz.prog w base spare held m 3 ((cs.toList.drop 1).take (Tryz.prog.cellsOf 3)) = ys[1]? := hf 1 _ rfl
  rw [Tryz.cells3] at g1
  have i1 := sub_int (hs.cut 1 1 (by omega)) g1 (isSome_get hl (by decide))
  have g2 : DataW.trod enc Tryz.prog w base spare held m 4 ((cs.toList.drop 2).take (Tryz.prog.cellsOf 4)) = ys[2]? := hf 2 _ rfl
  rw [Tryz.cells4] at g2
  have i2 := sub_bool (hs.cut 2 1 (by omega)) g2 (isSome_get hl (by decide))
  have g3 : DataW.trod enc Tryz.prog w base spare held m 9 ((cs.toList.drop 3).take (Tryz.prog.cellsOf 9)) = ys[3]? := hf 3 _ rfl
  rw [Tryz.cells9] at g3
  have s3 := sub_str (hs.cut 3 1 (by omega)) g3 (isSome_get hl (by decide))
  have g4 : DataW.trod enc Tryz.prog w base spare held m 9 ((cs.toList.drop 4).take (Tryz.prog.cellsOf 9)) = ys[4]? := hf 4 _ rfl
  rw [Tryz.cells9] at g4
  have s4 := sub_str (hs.cut 4 1 (by omega)) g4 (isSome_get hl (by decide))
  have g5 : DataW.trod enc Tryz.prog w base spare held m 9 ((cs.toList.drop 5).take (Tryz.prog.cellsOf 9)) = ys[5]? := hf 5 _ rfl
  rw [Tryz.cells9] at g5
  have s5 := sub_str (hs.cut 5 1 (by omega)) g5 (isSome_get hl (by decide))
  simp only [Prod.mk.injEq] at ex
  have hbig : ∀ (i : Nat) (o : Nat) (l : List Value), i < 6 → Sub (fun n => cs.getD n undef) o 1 l → DataW.trod enc Tryz.prog w base spare held m 9 l = ys[i]? → (sOf (cs.getD o undef)).size ≤ Rows.uptoBulk d := by
    intro i o l hi hsub hg
    obtain ⟨y, hy⟩ := Option.isSome_iff_exists.1 (isSome_get (i := i) hl hi)
    rw [hy] at hg
    obtain ⟨z, e1, e2⟩ := bulk_str hsub hg
    have hm := rbulk_mem (ys.map (·.1)) i y.1 (by rw [List.getElem?_map, hy]; rfl)
    have e3 : sOf (cs.getD o undef) = z := by
      have : cs.getD o undef = .string z := e1
      rw [this]; rfl
    rw [e3, ex.1]
    simp only [Rows.uptoBulk]
    omega
  have z3 := hbig 3 _ _ (by omega) (hs.cut 3 1 (by omega)) g3
  have z4 := hbig 4 _ _ (by omega) (hs.cut 4 1 (by omega)) g4
  have z5 := hbig 5 _ _ (by omega) (hs.cut 5 1 (by omega)) g5
  simp only [Nat.zero_add] at i0 i1 i2 s3 s4 s5 z3 z4 z5
  refine ⟨odOf (fun n => cs.getD n undef), congrArg Value.agg ?_, i1.bounds, z3, z4, z5⟩
  have hc : ∀ n, n < 6 → cs[n]? = some (cs.getD n undef) := fun n hn => by simp [hsz, hn]
  apply Array.ext_getElem?
  intro n
  by_cases hn : n < 6
  · rw [hc n hn]
    have key : ∀ m, m < 6 → (odOf (fun n => cs.getD n undef)).cells[m]? = some (cs.getD m undef) := by
      intro m hm
      match m, hm with
      | 0, _ => exact congrArg some i0.eq
      | 1, _ => exact congrArg some i1.eq
      | 2, _ => exact congrArg some i2.eq
      | 3, _ => exact congrArg some s3.eq
      | 4, _ => exact congrArg some s4.eq
      | 5, _ => exact congrArg some s5.eq
      | n + 6, h => exact absurd h (by omega)
    exact (key n hn).symm
  · rw [Array.getElem?_eq_none (by omega), Array.getElem?_eq_none (by simp [Od.cells]; omega)]
end Go.Proofs.YtaifjndkgfffpaaGreatDoor
/-
  The tables of verbs as they were laid, where RulesDoes is asked: the program's, and the document's.
-/
namespace Go.Proofs.YtaifjndkgfffpaaGreatDoor
open Go.ChangeShapes Go.WideShapes Go.ChangeAt Go.RowKit
open Go.ChangeMaps (open_string shut_string)
set_option linter.unusedVariables false

def rdname2 : String := (Rows.rulesDoesUptoRow.laid.map (·.1)).getD 2 default
def rdname1 : String := (Rows.rulesDoesUptoRow.laid.map (·.1)).getD 1 default
theorem rdVerbs2 : Tryz.prog.globalNamed rdname2 = some 1 := by kernel_rfl
theorem rdtVerbs2 : (Tryz.prog.globals[(1 : Nat)]?).map (·.type) = some 84 := by kernel_rfl
theorem rdVerbs1 : Tryz.prog.globalNamed rdname1 = some 0 := by kernel_rfl
theorem rdtVerbs1 : (Tryz.prog.globals[(0 : Nat)]?).map (·.type) = some 84 := by kernel_rfl
theorem of_laidD {W : World} (h : laidMetH Tryz.prog Rows.rulesDoesUptoRow.laid W) : Vb W ∧ Vr W := by
  rw [MakeChecks.laidMetH_plain _ _ _ (by kernel_rfl)] at h
  obtain ⟨ps, ⟨gA, tA, csA, fA, pA, qA, hgA, htA, hvA, hdA, ⟨g0, t0, cs0, f0, p0, q0, hg0, ht0, hv0, hd0, ⟨g1, t1, cs1, f1, p1, q1, hg1, ht1, hv1, hd1, _, _⟩, _⟩, _⟩, _, _⟩ := h
  constructor
  · obtain rfl := Option.some.inj (rdVerbs2.symm.trans hg1)
    obtain rfl := Option.some.inj (rdtVerbs2.symm.trans ht1)
    obtain ⟨t, fr, hb⟩ := block_of_var hg1 hv1
    have e := cells_of_texts (l := verbs) Tryz.underlying84 rfl Tryz.cellsVerbs hd1
    have e2 : cs1 = vcells := by
      obtain ⟨l⟩ := cs1
      have e' : l = verbs.map fun s => Value.string (bs s) := e
      rw [e']; rfl
    rw [e2] at hb
    exact ⟨t, fr, hb⟩
  · obtain rfl := Option.some.inj (rdVerbs1.symm.trans hg0)
    obtain rfl := Option.some.inj (rdtVerbs1.symm.trans ht0)
    obtain ⟨t, fr, hb⟩ := block_of_var hg0 hv0
    have e := cells_of_texts (l := verbs) Tryz.underlying84 rfl Tryz.cellsVerbs hd0
    have e2 : cs0 = vcells := by
      obtain ⟨l⟩ := cs0
      have e' : l = verbs.map fun s => Value.string (bs s) := e
      rw [e']; rfl
    rw [e2] at hb
    exact ⟨t, fr, hb⟩
end Go.Proofs.YtaifjndkgfffpaaGreatDoor
