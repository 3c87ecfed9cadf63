/-
  The verbs as they were laid; how a law's row is closed where nothing old has turned.
-/
import Derived.Test.YtfbgaimjjfmfaacDoorCards
import Derived.Test.YtfbgaimjjfmfaacDoorTie
import Derived.Test.YtfbgaimjjfmfaacDoorWdRefV
import Derived.JoinedCond
import Derived.SizedLaws
import Derived.Lay
import Derived.SevenTiedAt
import Derived.Stop.Joined
import Derived.Deep.DeepHandedRow
namespace Go.Proofs.YtfbgaimjjfmfaacDoor
open Go.ChangeShapes Go.WideShapes Go.ChangeAt Go.RowKit
open Go.ChangeMaps (open_string shut_string)
set_option linter.unusedVariables false

theorem Tryd.own : ownKnob Tryd.prog.godebug = none := by kernel_rfl
theorem Tryd.laidOut : laidOutB Tryd.prog = true := by kernel_rfl
theorem Tryd.rec9 : Tryd.prog.readableRec 9 = true := by kernel_rfl
theorem Tryd.rec3 : Tryd.prog.readableRec 3 = true := by kernel_rfl
theorem Tryd.cells9 : Tryd.prog.cellsOf 9 = 1 := by kernel_rfl
def vname : String := (Rows.wordsMeansRow.laid.map (·.1)).getD 2 default
theorem gVerbs : Tryd.prog.globalNamed vname = some 1 := by kernel_rfl
theorem tVerbs : (Tryd.prog.globals[(1 : Nat)]?).map (·.type) = some 42 := by kernel_rfl

theorem int_bounds {n : Int} (wn : (Lit.int .i64 n).wf = true) : -9223372036854775808 ≤ n ∧ n ≤ 9223372036854775807 := by
  simp [Lit.wf] at wn; have e1 : IntKind.i64.min = -9223372036854775808 := by decide
  rw [e1] at wn; exact wn

/-- The row's end: the law has answered true, what came in reads as it did, nothing old has turned. -/
theorem post_true {H : Type} {enc : TypeId × Value → H} {f : Func} {s : ChangeSpec} {W W' : World} {args : Array Value} {ds gs : List (DataW H)} {before pa : List MemPlace}
    (hW : DataW.Whole enc Tryd.prog f.params.toList s.vars false W args.toList ds gs before) (hr : f.resultTypes = #[4])
    (hres : (s.fn H (ds ++ gs)).results = [.lit (.bool true)])
    (hargs : DataW.TrodAll enc Tryd.prog W' 0 (fun b => decide (b < W.heap.size)) true f.params.toList args.toList (s.fn H (ds ++ gs)).args pa)
    (hvars : DataW.TrodVars enc Tryd.prog W' (fun b => decide (b < W.heap.size)) s.vars (s.fn H (ds ++ gs)).vars [])
    (hb : Below W.heap.size W W') : s.post enc Tryd.prog f false true false false W args (.bool true) W' := by
  refine ⟨ds, gs, before, [], pa, [], hW, ?_, hargs, hvars, hb.frame _, fun h => by cases h⟩
  rw [hres, hr]
  exact trodAll_cons_mk (shut_bool Tryd.underlying4 _) trodAll_mk0

/-- A list of texts as a datum. -/
def dtexts {H : Type} (l : List (List UInt8)) : List (DataW H) := l.map fun t => .lit (.string t)

/-- An array of texts that reads as these: its cells. -/
theorem cells_of_texts {W : World} {base : Nat} {sp : Nat → Bool} {held : Bool} {fuel : Nat} {t : TypeId} {cs : List Value} {q : List MemPlace} {l : List (List UInt8)} {n : Nat} {H : Type} {enc : TypeId × Value → H}
    (ht : Tryd.prog.underlying t = some (.array n 9)) (hn : l.length = n) (hc : Tryd.prog.cellsOf t = n) (h : DataW.trod enc Tryd.prog W base sp held fuel t cs = some (.agg (dtexts l), q)) : cs = l.map fun s => Value.string (bs s) := by
  obtain ⟨xs, m, _, ex, hlen, hl, hel⟩ := DataW.trod_array ht h
  rw [hc] at hlen
  simp only [Prod.mk.injEq, DataW.agg.injEq] at ex
  apply List.ext_getElem?
  intro i
  by_cases hi : i < n
  · have hE := hel i hi
    rw [Tryd.cells9, Nat.mul_one, List.getElem?_eq_getElem (by omega)] at hE
    obtain ⟨z, e1, e2, _⟩ := DataW.trod_string Tryd.underlying9 hE
    have e4 : (dtexts (H := H) l)[i]? = (xs.map (·.1))[i]? := by rw [ex.1]
    simp only [dtexts] at e4
    rw [List.getElem?_map, List.getElem?_map, List.getElem?_eq_getElem (by omega : i < xs.length), List.getElem?_eq_getElem (by omega : i < l.length), e2] at e4
    simp only [Option.map_some, Option.some.injEq, DataW.lit.injEq, Lit.string.injEq] at e4
    have h0 : ((cs.drop i).take 1)[0]? = some (.string z) := by rw [e1]; rfl
    rw [List.getElem?_map, List.getElem?_eq_getElem (by omega : i < l.length)]
    simp at h0
    rw [h0, Option.map_some, e4, bs_of]
  · rw [List.getElem?_eq_none (by omega), List.getElem?_eq_none (by simp; omega)]

theorem block_of_var {W : World} {name : String} {g : Nat} {cs : Array Value} (hg : Tryd.prog.globalNamed name = some g) (hv : W.var? Tryd.prog name = some cs) : ∃ t fr, W.heap[g]? = some (.cells cs t fr) := by
  unfold World.var? at hv
  rw [hg] at hv
  simp only [Option.bind_some] at hv
  split at hv
  · rename_i c t fr h
    cases hv
    exact ⟨t, fr, h⟩
  · cases hv

theorem Tryd.cellsVerbs : Tryd.prog.cellsOf 42 = 21 := by kernel_rfl

def rname : String := (Rows.wordsMeansRow.laid.map (·.1)).getD 1 default
theorem gVerbs2 : Tryd.prog.globalNamed rname = some 0 := by kernel_rfl
theorem tVerbs2 : (Tryd.prog.globals[(0 : Nat)]?).map (·.type) = some 42 := by kernel_rfl

theorem of_laid {W : World} (h : laidMetH Tryd.prog Rows.wordsMeansRow.laid W) : Vb W ∧ Vr W := by
  rw [MakeChecks.laidMetH_plain _ _ _ (by kernel_rfl)] at h
  obtain ⟨ps, ⟨g0, t0, cs0, f0, p0, q0, hg0, ht0, hv0, hd0, ⟨g2, t2, cs2, f2, p2, q2, hg2, ht2, hv2, hd2, ⟨g1, t1, cs1, f1, p1, q1, hg1, ht1, hv1, hd1, _, _⟩, _⟩, _⟩, _, _⟩ := h
  constructor
  · obtain rfl := Option.some.inj (gVerbs.symm.trans hg1)
    obtain rfl := Option.some.inj (tVerbs.symm.trans ht1)
    obtain ⟨t, fr, hb⟩ := block_of_var hg1 hv1
    have e := cells_of_texts (l := verbs) Tryd.underlying42 rfl Tryd.cellsVerbs hd1
    have e2 : cs1 = vcells := by
      obtain ⟨l⟩ := cs1
      have e' : l = verbs.map fun s => Value.string (bs s) := e
      rw [e']; rfl
    rw [e2] at hb
    exact ⟨t, fr, hb⟩
  · obtain rfl := Option.some.inj (gVerbs2.symm.trans hg2)
    obtain rfl := Option.some.inj (tVerbs2.symm.trans ht2)
    obtain ⟨t, fr, hb⟩ := block_of_var hg2 hv2
    have e := cells_of_texts (l := verbs) Tryd.underlying42 rfl Tryd.cellsVerbs hd2
    have e2 : cs2 = vcells := by
      obtain ⟨l⟩ := cs2
      have e' : l = verbs.map fun s => Value.string (bs s) := e
      rw [e']; rfl
    rw [e2] at hb
    exact ⟨t, fr, hb⟩
end Go.Proofs.YtfbgaimjjfmfaacDoor
