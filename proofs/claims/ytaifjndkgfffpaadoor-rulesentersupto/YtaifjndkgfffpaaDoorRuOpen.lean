/-
  The table of verbs as it was laid; a land that comes in, of bulk at most 1048576: its names are not too long.
-/
import Derived.Test.YtaifjndkgfffpaaDoorCards
import Derived.Test.YtaifjndkgfffpaaDoorTie
import Derived.Test.YtaifjndkgfffpaaDoorWdLay
import Derived.Test.YtaifjndkgfffpaaDoorLdOpen
import Derived.Test.YtaifjndkgfffpaaDoorMgF
namespace Go.Proofs.YtaifjndkgfffpaaDoor
open Go.ChangeShapes Go.WideShapes Go.ChangeAt Go.RowKit
open Go.ChangeMaps (open_string shut_string)
set_option linter.unusedVariables false

theorem rbulk_mem {H : Type} : ∀ (l : List (DataW H)) (i : Nat) (d : DataW H), l[i]? = some d → Rows.uptoBulk d ≤ Rows.uptoBulkAll l
  | [], i, d, h => by simp at h
  | x :: l, 0, d, h => by
    simp at h; subst h
    simp only [Rows.uptoBulkAll]; omega
  | x :: l, i + 1, d, h => by
    have := rbulk_mem l i d (by simpa using h)
    simp only [Rows.uptoBulkAll]; omega

section
variable {H : Type} {enc : TypeId × Value → H} {w : World} {base : Nat} {spare : Nat → Bool} {held : Bool} {fuel : Nat} {c : Nat → Value} {o : Nat} {l : List Value}
theorem bulk_str {x : DataW H × List MemPlace} (hs : Sub c o 1 l) (h : DataW.trod enc Tryd.prog w base spare held fuel 9 l = some x) : ∃ z, c o = .string z ∧ z.size ≤ Rows.uptoBulk x.1 := by
  obtain ⟨z, e, e2, _⟩ := DataW.trod_string Tryd.underlying9 h
  refine ⟨z, hs.one e, ?_⟩
  rw [e2]
  simp only [Rows.uptoBulk]
  have := size_len z
  omega
theorem bulk_room {x : DataW H × List MemPlace} (hs : Sub c o 14 l) (h : DataW.trod enc Tryd.prog w base spare held fuel 25 l = some x) : ∃ z, c o = .string z ∧ z.size ≤ Rows.uptoBulk x.1 := by
  obtain ⟨ys, m, _, ex, _, hl, hf⟩ := DataW.trod_struct Tryd.underlying25 h
  have g0 : DataW.trod enc Tryd.prog w base spare held m 9 ((l.drop 0).take (Tryd.prog.cellsOf 9)) = ys[0]? := hf 0 _ rfl
  rw [Tryd.cells9] at g0
  obtain ⟨y, hy⟩ := Option.isSome_iff_exists.1 (isSome_get (i := 0) hl (by decide))
  rw [hy] at g0
  obtain ⟨z, e1, e2⟩ := bulk_str (hs.cut 0 1 (by omega)) g0
  have hm := rbulk_mem (ys.map (·.1)) 0 y.1 (by rw [List.getElem?_map, hy]; rfl)
  rw [ex]
  simp only [Rows.uptoBulk]
  exact ⟨z, e1, by omega⟩
theorem bulk_thing {x : DataW H × List MemPlace} (hs : Sub c o 5 l) (h : DataW.trod enc Tryd.prog w base spare held fuel 28 l = some x) : ∃ z, c o = .string z ∧ z.size ≤ Rows.uptoBulk x.1 := by
  obtain ⟨ys, m, _, ex, _, hl, hf⟩ := DataW.trod_struct Tryd.underlying28 h
  have g0 : DataW.trod enc Tryd.prog w base spare held m 9 ((l.drop 0).take (Tryd.prog.cellsOf 9)) = ys[0]? := hf 0 _ rfl
  rw [Tryd.cells9] at g0
  obtain ⟨y, hy⟩ := Option.isSome_iff_exists.1 (isSome_get (i := 0) hl (by decide))
  rw [hy] at g0
  obtain ⟨z, e1, e2⟩ := bulk_str (hs.cut 0 1 (by omega)) g0
  have hm := rbulk_mem (ys.map (·.1)) 0 y.1 (by rw [List.getElem?_map, hy]; rfl)
  rw [ex]
  simp only [Rows.uptoBulk]
  exact ⟨z, e1, by omega⟩
theorem bulk_being {x : DataW H × List MemPlace} (hs : Sub c o 6 l) (h : DataW.trod enc Tryd.prog w base spare held fuel 31 l = some x) : ∃ z, c o = .string z ∧ z.size ≤ Rows.uptoBulk x.1 := by
  obtain ⟨ys, m, _, ex, _, hl, hf⟩ := DataW.trod_struct Tryd.underlying31 h
  have g0 : DataW.trod enc Tryd.prog w base spare held m 9 ((l.drop 0).take (Tryd.prog.cellsOf 9)) = ys[0]? := hf 0 _ rfl
  rw [Tryd.cells9] at g0
  obtain ⟨y, hy⟩ := Option.isSome_iff_exists.1 (isSome_get (i := 0) hl (by decide))
  rw [hy] at g0
  obtain ⟨z, e1, e2⟩ := bulk_str (hs.cut 0 1 (by omega)) g0
  have hm := rbulk_mem (ys.map (·.1)) 0 y.1 (by rw [List.getElem?_map, hy]; rfl)
  rw [ex]
  simp only [Rows.uptoBulk]
  exact ⟨z, e1, by omega⟩

set_option maxRecDepth 100000 in
theorem land_names {L : Ld} {d : DataW H} {p : List MemPlace} (h : DataW.Trod enc Tryd.prog w base spare held 34 (.agg L.cells) d p) (hk : Rows.uptoBulk d ≤ 1048576) :
    (∀ r, r < 6 → (L.rname r).size ≤ 1048576) ∧ (∀ i, i < 9 → (L.tname i).size ≤ 1048576) ∧ (∀ b, b < 6 → (L.bname b).size ≤ 1048576) := by
  obtain ⟨fuel, hf⟩ := h
  obtain ⟨ys, m, _, ex, _, hl, hf⟩ := DataW.trod_struct Tryd.underlying34 hf
  simp only [Prod.mk.injEq] at ex
  rw [ex.1] at hk
  simp only [Rows.uptoBulk] at hk
  have hc : (Value.agg L.cells).cells = L.cells := by unfold Value.cells; rfl
  have g0 : DataW.trod enc Tryd.prog w base spare held m 26 (((Value.agg L.cells).cells.toList.drop 0).take (Tryd.prog.cellsOf 26)) = ys[0]? := hf 0 _ rfl
  rw [Tryd.cellsRooms, hc] at g0
  have g1 : DataW.trod enc Tryd.prog w base spare held m 29 (((Value.agg L.cells).cells.toList.drop 84).take (Tryd.prog.cellsOf 29)) = ys[1]? := hf 1 _ rfl
  rw [Tryd.cellsThings, hc] at g1
  have g2 : DataW.trod enc Tryd.prog w base spare held m 32 (((Value.agg L.cells).cells.toList.drop 129).take (Tryd.prog.cellsOf 32)) = ys[2]? := hf 2 _ rfl
  rw [Tryd.cellsBeings, hc] at g2
  have hs : Sub L.cellAt 0 165 L.cells.toList := ⟨by rw [Array.length_toList, L.size], fun j hj => by rw [Array.getElem?_toList, L.get j hj, Nat.zero_add]⟩
  have s0 := hs.cut 0 84 (by omega)
  have s1 := hs.cut 84 45 (by omega)
  have s2 := hs.cut 129 36 (by omega)
  simp only [Nat.zero_add] at s0 s1 s2
  obtain ⟨y0, h0⟩ := Option.isSome_iff_exists.1 (isSome_get (i := 0) hl (by decide))
  obtain ⟨y1, h1⟩ := Option.isSome_iff_exists.1 (isSome_get (i := 1) hl (by decide))
  obtain ⟨y2, h2⟩ := Option.isSome_iff_exists.1 (isSome_get (i := 2) hl (by decide))
  rw [h0] at g0
  rw [h1] at g1
  rw [h2] at g2
  have m0 := rbulk_mem (ys.map (·.1)) 0 y0.1 (by rw [List.getElem?_map, h0]; rfl)
  have m1 := rbulk_mem (ys.map (·.1)) 1 y1.1 (by rw [List.getElem?_map, h1]; rfl)
  have m2 := rbulk_mem (ys.map (·.1)) 2 y2.1 (by rw [List.getElem?_map, h2]; rfl)
  obtain ⟨z0, _, _, x0, _, l0, f0⟩ := DataW.trod_array Tryd.underlying26 g0
  obtain ⟨z1, _, _, x1, _, l1, f1⟩ := DataW.trod_array Tryd.underlying29 g1
  obtain ⟨z2, _, _, x2, _, l2, f2⟩ := DataW.trod_array Tryd.underlying32 g2
  rw [x0] at m0
  rw [x1] at m1
  rw [x2] at m2
  simp only [Rows.uptoBulk] at m0 m1 m2
  refine ⟨fun r hr => ?_, fun i hi => ?_, fun b hb => ?_⟩
  · have g := f0 r hr
    rw [Tryd.cellsRoom] at g
    obtain ⟨u, hu⟩ := Option.isSome_iff_exists.1 (isSome_get l0 hr)
    rw [hu] at g
    obtain ⟨z, e1, e2⟩ := bulk_room (s0.cut (r * 14) 14 (by omega)) g
    have mm := rbulk_mem (z0.map (·.1)) r u.1 (by rw [List.getElem?_map, hu]; rfl)
    have e3 := L.at_room r 0 hr (by omega)
    simp only [Nat.add_zero, Nat.zero_add] at e1 e3
    rw [e3] at e1
    simp only [Ld.roomCell, Value.string.injEq] at e1
    rw [e1]; omega
  · have g := f1 i hi
    rw [Tryd.cellsThing] at g
    obtain ⟨u, hu⟩ := Option.isSome_iff_exists.1 (isSome_get l1 hi)
    rw [hu] at g
    obtain ⟨z, e1, e2⟩ := bulk_thing (s1.cut (i * 5) 5 (by omega)) g
    have mm := rbulk_mem (z1.map (·.1)) i u.1 (by rw [List.getElem?_map, hu]; rfl)
    have e3 := L.at_thing i 0 hi (by omega)
    simp only [Nat.add_zero] at e1 e3
    rw [e3] at e1
    simp only [Ld.thingCell, Value.string.injEq] at e1
    rw [e1]; omega
  · have g := f2 b hb
    rw [Tryd.cellsBeing] at g
    obtain ⟨u, hu⟩ := Option.isSome_iff_exists.1 (isSome_get l2 hb)
    rw [hu] at g
    obtain ⟨z, e1, e2⟩ := bulk_being (s2.cut (b * 6) 6 (by omega)) g
    have mm := rbulk_mem (z2.map (·.1)) b u.1 (by rw [List.getElem?_map, hu]; rfl)
    have e3 := L.at_being b 0 hb (by omega)
    simp only [Nat.add_zero] at e1 e3
    rw [e3] at e1
    simp only [Ld.beingCell, Value.string.injEq] at e1
    rw [e1]; omega
end

def rvname : String := (Rows.rulesKeepUptoRow.laid.map (·.1)).getD 0 default
theorem rgVerbs : Tryd.prog.globalNamed rvname = some 1 := by kernel_rfl
theorem rtVerbs : (Tryd.prog.globals[(1 : Nat)]?).map (·.type) = some 89 := by kernel_rfl
theorem of_laidR {W : World} (h : laidMetH Tryd.prog Rows.rulesKeepUptoRow.laid W) : Vb W := by
  rw [MakeChecks.laidMetH_plain _ _ _ (by kernel_rfl)] at h
  obtain ⟨ps, ⟨g0, t0, cs0, f0, p0, q0, hg0, ht0, hv0, hd0, _, _⟩, _, _⟩ := h
  obtain rfl := Option.some.inj (rgVerbs.symm.trans hg0)
  obtain rfl := Option.some.inj (rtVerbs.symm.trans ht0)
  obtain ⟨t, fr, hb⟩ := block_of_var hg0 hv0
  have e := cells_of_texts (l := verbs) Tryd.underlying89 rfl Tryd.cellsVerbs hd0
  have e2 : cs0 = vcells := by
    obtain ⟨l⟩ := cs0
    have e' : l = verbs.map fun s => Value.string (bs s) := e
    rw [e']; rfl
  rw [e2] at hb
  exact ⟨t, fr, hb⟩

/-! ### A land of nothing, as data. -/
def rRoomD {H : Type} : DataW H := .agg [.lit (.string []), .lit (.bool false), .agg (List.replicate 6 (.lit (.int .i64 0))), .agg (List.replicate 6 (.lit (.bool false)))]
def rThingD {H : Type} : DataW H := .agg [.lit (.string []), .lit (.int .i64 0), .lit (.int .i64 0), .lit (.int .i64 0), .lit (.bool false)]
def rBeingD {H : Type} : DataW H := .agg [.lit (.string []), .lit (.bool false), .lit (.bool false), .lit (.int .i64 0), .lit (.int .i64 0), .lit (.int .i64 0)]
def rLandD {H : Type} : DataW H := .agg [.agg (List.replicate 6 rRoomD), .agg (List.replicate 9 rThingD), .agg (List.replicate 6 rBeingD)]
end Go.Proofs.YtaifjndkgfffpaaDoor
