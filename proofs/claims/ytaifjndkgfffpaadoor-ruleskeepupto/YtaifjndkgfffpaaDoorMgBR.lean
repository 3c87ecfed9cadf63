/-
  How a law's row is closed where nothing old has turned.
-/
import Derived.Test.YtaifjndkgfffpaaDoorMgAA
import Derived.JoinedCond
import Derived.SizedLaws
import Derived.Test.YtaifjndkgfffpaaDoorMgAL
import Derived.Lay
import Derived.SevenTiedAt
import Derived.Stop.Joined
import Derived.Deep.DeepHandedRow
namespace Go.Proofs.YtaifjndkgfffpaaDoor
open Go.ChangeShapes Go.WideShapes Go.ChangeAt Go.RowKit
open Go.ChangeMaps (open_string shut_string)
set_option linter.unusedVariables false

theorem Tryd.own : ownKnob Tryd.prog.godebug = none := by kernel_rfl
theorem Tryd.laidOut : laidOutB Tryd.prog = true := by kernel_rfl
theorem Tryd.rec9 : Tryd.prog.readableRec 9 = true := by kernel_rfl
theorem Tryd.rec3 : Tryd.prog.readableRec 3 = true := by kernel_rfl
theorem Tryd.cells9 : Tryd.prog.cellsOf 9 = 1 := by kernel_rfl
theorem Tryd.cells3 : Tryd.prog.cellsOf 3 = 1 := by kernel_rfl

theorem int_bounds {n : Int} (wn : (Lit.int .i64 n).wf = true) : -9223372036854775808 ≤ n ∧ n ≤ 9223372036854775807 := by
  simp [Lit.wf] at wn; have e1 : IntKind.i64.min = -9223372036854775808 := by decide
  rw [e1] at wn; exact wn

/-- The row's end: the law has answered true, what came in reads as it did, nothing old has turned. -/
theorem post_true {H : Type} {enc : TypeId × Value → H} {f : Func} {s : ChangeSpec} {W W' : World} {args : Array Value} {ds gs : List (DataW H)} {before pa : List MemPlace}
    (hW : DataW.Whole enc Tryd.prog f.params.toList s.vars false W args.toList ds gs before) (hr : f.resultTypes = #[4])
    (hres : (s.fn H (ds ++ gs)).results = [.lit (.bool true)])
    (hargs : DataW.TrodAll enc Tryd.prog W' 0 (fun b => decide (b < W.heap.size)) true f.params.toList args.toList (s.fn H (ds ++ gs)).args pa)
    (hvars : DataW.TrodVars enc Tryd.prog W' (fun b => decide (b < W.heap.size)) s.vars (s.fn H (ds ++ gs)).vars [])
    (hb : Below W.heap.size W W') : s.post enc Tryd.prog f false true false false W args (.bool true) W' := by
  refine ⟨ds, gs, before, [], pa, [], hW, ?_, hargs, hvars, hb.frame _, fun h => by cases h⟩
  rw [hres, hr]
  exact trodAll_cons_mk (shut_bool Tryd.underlying4 _) trodAll_mk0

theorem trod_lt' {H : Type} {enc : TypeId × Value → H} {w : World} {base : Nat} {spare : Nat → Bool} {held : Bool} {t : TypeId} {v : Value} {d : DataW H} {p : List MemPlace}
    (h : DataW.Trod enc Tryd.prog w base spare held t v d p) : ∀ x ∈ p, x.block < w.heap.size := by
  obtain ⟨n, h⟩ := h; exact DataW.trod_lt n _ _ _ h
end Go.Proofs.YtaifjndkgfffpaaDoor
/-
  Tables of texts as they were laid.
-/
namespace Go.Proofs.YtaifjndkgfffpaaDoor
open Go.ChangeShapes Go.WideShapes Go.ChangeAt Go.RowKit
open Go.ChangeMaps (open_string shut_string)
set_option linter.unusedVariables false

/-- A list of texts as a datum. -/
def dtexts {H : Type} (l : List (List UInt8)) : List (DataW H) := l.map fun t => .lit (.string t)

/-- An array of texts that reads as these: its cells. -/
theorem cells_of_texts {W : World} {base : Nat} {sp : Nat → Bool} {held : Bool} {fuel : Nat} {t : TypeId} {cs : List Value} {q : List MemPlace} {l : List (List UInt8)} {n : Nat} {H : Type} {enc : TypeId × Value → H}
    (ht : Tryd.prog.underlying t = some (.array n 9)) (hn : l.length = n) (hc : Tryd.prog.cellsOf t = n) (h : DataW.trod enc Tryd.prog W base sp held fuel t cs = some (.agg (dtexts l), q)) : cs = l.map fun s => Value.string (bs s) := by
  obtain ⟨xs, m, _, ex, hlen, hl, hel⟩ := DataW.trod_array ht h
  rw [hc] at hlen
  simp only [Prod.mk.injEq, DataW.agg.injEq] at ex
  apply List.ext_getElem?
  intro i
  by_cases hi : i < n
  · have hE := hel i hi
    rw [Tryd.cells9, Nat.mul_one, List.getElem?_eq_getElem (by omega)] at hE
    obtain ⟨z, e1, e2, _⟩ := DataW.trod_string Tryd.underlying9 hE
    have e4 : (dtexts (H := H) l)[i]? = (xs.map (·.1))[i]? := by rw [ex.1]
    simp only [dtexts] at e4
    rw [List.getElem?_map, List.getElem?_map, List.getElem?_eq_getElem (by omega : i < xs.length), List.getElem?_eq_getElem (by omega : i < l.length), e2] at e4
    simp only [Option.map_some, Option.some.injEq, DataW.lit.injEq, Lit.string.injEq] at e4
    have h0 : ((cs.drop i).take 1)[0]? = some (.string z) := by rw [e1]; rfl
    rw [List.getElem?_map, List.getElem?_eq_getElem (by omega : i < l.length)]
    simp at h0
    rw [h0, Option.map_some, e4, bs_of]
  · rw [List.getElem?_eq_none (by omega), List.getElem?_eq_none (by simp; omega)]

theorem block_of_var {W : World} {name : String} {g : Nat} {cs : Array Value} (hg : Tryd.prog.globalNamed name = some g) (hv : W.var? Tryd.prog name = some cs) : ∃ t fr, W.heap[g]? = some (.cells cs t fr) := by
  unfold World.var? at hv
  rw [hg] at hv
  simp only [Option.bind_some] at hv
  split at hv
  · rename_i c t fr h
    cases hv
    exact ⟨t, fr, h⟩
  · cases hv

theorem Tryd.cellsVerbs : Tryd.prog.cellsOf 89 = 21 := by kernel_rfl

end Go.Proofs.YtaifjndkgfffpaaDoor
