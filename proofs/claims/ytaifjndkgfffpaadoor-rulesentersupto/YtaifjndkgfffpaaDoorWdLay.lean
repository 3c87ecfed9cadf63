/-
  Tables of texts as they were laid.
-/
import Derived.Test.YtaifjndkgfffpaaDoorMgB
import Derived.Test.YtaifjndkgfffpaaDoorBsOpen
import Derived.Lay
import Derived.SevenTiedAt
import Derived.Stop.Joined
import Derived.Deep.DeepHandedRow
namespace Go.Proofs.YtaifjndkgfffpaaDoor
open Go.ChangeShapes Go.WideShapes Go.ChangeAt Go.RowKit
open Go.ChangeMaps (open_string shut_string)
set_option linter.unusedVariables false

/-- A list of texts as a datum. -/
def dtexts {H : Type} (l : List (List UInt8)) : List (DataW H) := l.map fun t => .lit (.string t)

/-- An array of texts that reads as these: its cells. -/
theorem cells_of_texts {W : World} {base : Nat} {sp : Nat → Bool} {held : Bool} {fuel : Nat} {t : TypeId} {cs : List Value} {q : List MemPlace} {l : List (List UInt8)} {n : Nat} {H : Type} {enc : TypeId × Value → H}
    (ht : Tryd.prog.underlying t = some (.array n 9)) (hn : l.length = n) (hc : Tryd.prog.cellsOf t = n) (h : DataW.trod enc Tryd.prog W base sp held fuel t cs = some (.agg (dtexts l), q)) : cs = l.map fun s => Value.string (bs s) := by
  obtain ⟨xs, m, _, ex, hlen, hl, hel⟩ := DataW.trod_array ht h
  rw [hc] at hlen
  simp only [Prod.mk.injEq, DataW.agg.injEq] at ex
  apply List.ext_getElem?
  intro i
  by_cases hi : i < n
  · have hE := hel i hi
    rw [Tryd.cells9, Nat.mul_one, List.getElem?_eq_getElem (by omega)] at hE
    obtain ⟨z, e1, e2, _⟩ := DataW.trod_string Tryd.underlying9 hE
    have e4 : (dtexts (H := H) l)[i]? = (xs.map (·.1))[i]? := by rw [ex.1]
    simp only [dtexts] at e4
    rw [List.getElem?_map, List.getElem?_map, List.getElem?_eq_getElem (by omega : i < xs.length), List.getElem?_eq_getElem (by omega : i < l.length), e2] at e4
    simp only [Option.map_some, Option.some.injEq, DataW.lit.injEq, Lit.string.injEq] at e4
    have h0 : ((cs.drop i).take 1)[0]? = some (.string z) := by rw [e1]; rfl
    rw [List.getElem?_map, List.getElem?_eq_getElem (by omega : i < l.length)]
    simp at h0
    rw [h0, Option.map_some, e4, bs_of]
  · rw [List.getElem?_eq_none (by omega), List.getElem?_eq_none (by simp; omega)]

theorem block_of_var {W : World} {name : String} {g : Nat} {cs : Array Value} (hg : Tryd.prog.globalNamed name = some g) (hv : W.var? Tryd.prog name = some cs) : ∃ t fr, W.heap[g]? = some (.cells cs t fr) := by
  unfold World.var? at hv
  rw [hg] at hv
  simp only [Option.bind_some] at hv
  split at hv
  · rename_i c t fr h
    cases hv
    exact ⟨t, fr, h⟩
  · cases hv

theorem Tryd.cellsVerbs : Tryd.prog.cellsOf 89 = 21 := by kernel_rfl

end Go.Proofs.YtaifjndkgfffpaaDoor
