/-
  What the document's answer makes of a text cut at every dot: strings.Split at one byte.
-/
import Derived.Test.YtfbgaimjjfmfaacDoorWdSec
import Derived.Deep.OwnRows
namespace Go.Proofs.YtfbgaimjjfmfaacDoor
open Go.RowKit
set_option linter.unusedVariables false

/-- A text cut at every c. -/
def dsp (c : UInt8) : List UInt8 → List UInt8 → List (List UInt8)
  | acc, [] => [acc]
  | acc, x :: r => if x = c then acc :: dsp c [] r else dsp c (acc ++ [x]) r
def dotsL (c : UInt8) (l : List UInt8) : List (List UInt8) := dsp c [] l

theorem dsp_len (c : UInt8) : ∀ (l acc : List UInt8), (dsp c acc l).length = l.count c + 1
  | [], acc => by simp [dsp]
  | x :: r, acc => by
    by_cases hx : x = c
    · have := dsp_len c r []
      simp [dsp, hx, this]
    · have := dsp_len c r (acc ++ [x])
      simp [dsp, hx, this]
theorem dots_len (c : UInt8) (l : List UInt8) : (dotsL c l).length = l.count c + 1 := dsp_len c l []

theorem dsp_cut (c : UInt8) : ∀ (l acc : List UInt8), dsp c acc l = if (cutL c l).2.2 = true then (acc ++ (cutL c l).1) :: dotsL c (cutL c l).2.1 else [acc ++ l]
  | [], acc => by simp [dsp, cutL]
  | x :: r, acc => by
    by_cases hx : x = c
    · simp [dsp, cutL, hx, dotsL]
    · have := dsp_cut c r (acc ++ [x])
      simp only [dsp, cutL, if_neg hx]
      rw [this]
      simp
theorem dots_cut (c : UInt8) (l : List UInt8) : dotsL c l = if (cutL c l).2.2 = true then (cutL c l).1 :: dotsL c (cutL c l).2.1 else [l] := by
  have := dsp_cut c l []
  simpa [dotsL] using this

theorem dots_hit {c : UInt8} {l : List UInt8} {i : Nat} (h : Lib.indexByte l c = (i : Int)) : dotsL c l = l.take i :: dotsL c (l.drop (i + 1)) := by
  rw [dots_cut, cut_hit c l i h]; simp
theorem dots_miss {c : UInt8} {l : List UInt8} (h : Lib.indexByte l c = -1) : dotsL c l = [l] := by
  rw [dots_cut, cut_miss c l h]; simp

set_option maxHeartbeats 1000000 in
set_option maxRecDepth 100000 in
theorem count_one (s : ByteArray) (c : UInt8) (w : World) :
    Calls Tryd.prog 47 #[.string s, .string ⟨#[c]⟩] w fun e w' => e = .returned (.int .i64 ((s.data.toList.count c : Nat) : Int)) ∧ w' = w := by
  go_enter Tryd.func47, Tryd.ntmps47
  go_wp2
  rw [run_callFunc_extern Tryd.func56 (by kernel_rfl) (by kernel_rfl) (by kernel_rfl) (e := Extern.BytealgCount.count) (by kernel_rfl), Lib.run_countString]
  simp only [Result.andThen]
  rw [Oper.upon_value]
  go_wp2
  go_ret
  exact ⟨rfl, rfl⟩

/-- Block g holds N texts, the first of them these. -/
structure Row (w0 : World) (g N : Nat) (q : List (List UInt8)) (wr : World) : Prop where
  lo : w0.heap.size ≤ g
  below : Below w0.heap.size w0 wr
  blk : ∃ C, wr.heap[g]? = some (.cells C 9 (0, 0)) ∧ C.size = N ∧ ∀ j (hj : j < q.length), C[j]? = some (.string (bs q[j]))

section
variable {w0 wr : World} {g N : Nat} {q : List (List UInt8)}
theorem Row.some (h : Row w0 g N q wr) (j : Nat) (hj : j < N) : ∃ v, wr.cell? ⟨g, j, none⟩ = Option.some v := by
  obtain ⟨C, hb, hn, _⟩ := h.blk
  refine ⟨C[j]'(by omega), ?_⟩
  simp only [World.cell?, hb]
  simp [show j < C.size by omega]
theorem Row.frozen (h : Row w0 g N q wr) (j : Nat) : wr.frozen? ⟨g, j, none⟩ = false := by
  obtain ⟨C, hb, _⟩ := h.blk
  simp only [World.frozen?, hb]
  simp
theorem Row.put (h : Row w0 g N q wr) (x : List UInt8) {v : Value} (hv : v = .string (bs x)) (hj : q.length < N) {o : Nat} (ho : o = q.length) : Row w0 g N (q ++ [x]) (wr.setCell ⟨g, o, none⟩ v) := by
  subst hv ho
  refine ⟨h.lo, h.below.setCell h.lo _, ?_⟩
  obtain ⟨C, hb, hn, hc⟩ := h.blk
  refine ⟨C.setIfInBounds q.length (.string (bs x)), heap_setCell_same wr g _ C 9 _ hb, by simpa using hn, fun j hj' => ?_⟩
  rw [Array.getElem?_setIfInBounds]
  rw [List.length_append, List.length_singleton] at hj'
  by_cases e : q.length = j
  · subst e
    simp [show q.length < C.size by omega]
  · rw [if_neg e, hc j (by omega)]
    simp [show j < q.length by omega]
theorem Row.reads (h : Row w0 g q.length q wr) (hm : q.length ≤ maxLen) : Rd wr (.slice (Option.some ⟨g, 0, none⟩) q.length q.length) q := by
  obtain ⟨C, hb, hn, hc⟩ := h.blk
  refine ⟨Option.some ⟨g, 0, none⟩, q.length, by simp, by simp, hm, fun e => (by cases e), fun _ => ⟨g, 0, rfl, fun i hi => ?_⟩⟩
  rw [List.length_map] at hi
  simp only [World.cell?, hb, Nat.zero_add]
  simp [hc i hi]
end
end Go.Proofs.YtfbgaimjjfmfaacDoor
