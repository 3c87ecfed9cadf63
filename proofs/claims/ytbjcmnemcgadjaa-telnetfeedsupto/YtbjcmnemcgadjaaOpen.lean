/-
  How a codec that comes in is read, and how a law's row is closed where nothing old has turned.
-/
import Derived.Test.YtbjcmnemcgadjaaEq
import Derived.JoinedCond
namespace Go.Proofs.Ytbjcmnemcgadjaa
open Go.ChangeShapes Go.WideShapes Go.ChangeAt Go.RowKit
open Go.ChangeMaps (open_string shut_string)
set_option linter.unusedVariables false

theorem Try.own : ownKnob Try.prog.godebug = none := by kernel_rfl
theorem Try.laidOut : laidOutB Try.prog = true := by kernel_rfl
theorem Try.cells25 : Try.prog.cellsOf 25 = 10 := by kernel_rfl
theorem Try.cells23 : Try.prog.cellsOf 23 = 3 := by kernel_rfl
theorem Try.cells9 : Try.prog.cellsOf 9 = 1 := by kernel_rfl
theorem Try.rec25 : Try.prog.readableRec 25 = true := by kernel_rfl
theorem Try.rec9 : Try.prog.readableRec 9 = true := by kernel_rfl
theorem Try.rec3 : Try.prog.readableRec 3 = true := by kernel_rfl
theorem Try.rec5 : Try.prog.readableRec 5 = true := by kernel_rfl

section
variable {H : Type} {enc : TypeId × Value → H} {w : World} {base : Nat} {spare : Nat → Bool} {held : Bool}

theorem array10 {cs : Array Value} (h : cs.size = 10) : ∃ a0 a1 a2 a3 a4 a5 a6 a7 a8 a9, cs = #[a0, a1, a2, a3, a4, a5, a6, a7, a8, a9] := by
  obtain ⟨l⟩ := cs
  have h' : l.length = 10 := h
  match l, h' with
  | [a0, a1, a2, a3, a4, a5, a6, a7, a8, a9], _ => exact ⟨a0, a1, a2, a3, a4, a5, a6, a7, a8, a9, rfl⟩

theorem open_three {fuel : Nat} {a b c : Value} {x : DataW H × List MemPlace} (h : DataW.trod enc Try.prog w base spare held fuel 23 [a, b, c] = some x) :
    ∃ i j k : Int, a = .int .i64 i ∧ b = .int .i64 j ∧ c = .int .i64 k ∧ x.2 = [] := by
  obtain ⟨ys, m, _, rfl, _, hl, hf⟩ := DataW.trod_array Try.underlying23 h
  match ys, hl with
  | [y0, y1, y2], _ =>
    have g0 := hf 0 (by omega)
    have g1 := hf 1 (by omega)
    have g2 := hf 2 (by omega)
    simp [Try.cells3] at g0 g1 g2
    obtain ⟨i, e0, rfl, _⟩ := DataW.trod_int Try.underlying3 g0
    obtain ⟨j, e1, rfl, _⟩ := DataW.trod_int Try.underlying3 g1
    obtain ⟨k, e2, rfl, _⟩ := DataW.trod_int Try.underlying3 g2
    simp at e0 e1 e2
    exact ⟨i, j, k, e0, e1, e2, by simp⟩

/-- A codec by value, opened. -/
theorem open_tel {r : Reach} {b0 : Nat} {v : Value} {d : DataW H} {p : List MemPlace} (hv : Value.okWide Try.prog w r b0 25 v) (h : DataW.Trod enc Try.prog w base spare held 25 v d p) :
    ∃ t : Tel, v = t.val ∧ t.sub.size ≤ maxLen ∧ p = [] := by
  obtain ⟨cs, rfl, hsz⟩ := okWide_struct Try.underlying25 hv
  obtain ⟨a0, a1, a2, a3, a4, a5, a6, a7, a8, a9, rfl⟩ := array10 (hsz.trans Try.cells25)
  obtain ⟨fuel, hf⟩ := h
  obtain ⟨ys, m, _, hx, _, hl, hf⟩ := DataW.trod_struct Try.underlying25 hf
  match ys, hl with
  | [y0, y1, y2, y3, y4, y5], _ =>
    have g0 := hf 0 _ rfl
    have g1 := hf 1 _ rfl
    have g2 := hf 2 _ rfl
    have g3 := hf 3 _ rfl
    have g4 := hf 4 _ rfl
    have g5 := hf 5 _ rfl
    simp [Try.cells3, Try.cells23, Try.cells9, Value.cells] at g0 g1 g2 g3 g4 g5
    obtain ⟨n0, e0, rfl, _⟩ := DataW.trod_int Try.underlying3 g0
    obtain ⟨n1, e1, rfl, _⟩ := DataW.trod_int Try.underlying3 g1
    obtain ⟨s, e2, rfl, hs⟩ := DataW.trod_string Try.underlying9 g2
    obtain ⟨i0, i1, i2, e3, e4, e5, q3⟩ := open_three g3
    obtain ⟨j0, j1, j2, e6, e7, e8, q4⟩ := open_three g4
    obtain ⟨n5, e9, rfl, _⟩ := DataW.trod_int Try.underlying3 g5
    simp at e0 e1 e2 e9
    subst e0 e1 e2 e3 e4 e5 e6 e7 e8 e9
    simp only [Prod.mk.injEq] at hx
    refine ⟨⟨n0, n1, s, i0, i1, i2, j0, j1, j2, n5⟩, rfl, hs, ?_⟩
    rw [hx.2]
    simp [q3, q4]
end

/-- The row's end: the law has answered true, what came in reads as it did, nothing old has turned. -/
theorem post_true {H : Type} {enc : TypeId × Value → H} {f : Func} {s : ChangeSpec} {W W' : World} {args : Array Value} {ds gs : List (DataW H)} {before pa : List MemPlace}
    (hW : DataW.Whole enc Try.prog f.params.toList s.vars false W args.toList ds gs before) (hr : f.resultTypes = #[4])
    (hres : (s.fn H (ds ++ gs)).results = [.lit (.bool true)])
    (hargs : DataW.TrodAll enc Try.prog W' 0 (fun b => decide (b < W.heap.size)) true f.params.toList args.toList (s.fn H (ds ++ gs)).args pa)
    (hvars : DataW.TrodVars enc Try.prog W' (fun b => decide (b < W.heap.size)) s.vars (s.fn H (ds ++ gs)).vars [])
    (hb : Below W.heap.size W W') : s.post enc Try.prog f false true false false W args (.bool true) W' := by
  refine ⟨ds, gs, before, [], pa, [], hW, ?_, hargs, hvars, hb.frame _, fun h => by cases h⟩
  rw [hres, hr]
  exact trodAll_cons_mk (shut_bool Try.underlying4 _) trodAll_mk0

end Go.Proofs.Ytbjcmnemcgadjaa
