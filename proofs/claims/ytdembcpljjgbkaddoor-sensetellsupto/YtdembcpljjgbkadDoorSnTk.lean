/-
  The document's own TellOf: what it stands on; its two functions inside: contracts.
-/
import Derived.Test.YtdembcpljjgbkadDoorSnTell2
import Derived.Test.YtdembcpljjgbkadDoorSnTake
import Derived.Test.YtdembcpljjgbkadDoorWdRefC
namespace Go.Proofs.YtdembcpljjgbkadDoor
open Go.RowKit
set_option linter.unusedVariables false

/-- strconv.Itoa answers a number's numeral, in whatever world behind this one. -/
def It (w0 : World) : Prop := ∀ (w : World) (n : Int), Below w0.heap.size w0 w → -9223372036854775808 ≤ n → n ≤ 9223372036854775807 →
  Calls Tryd.prog 44 #[.int .i64 n] w fun e w' => e = .returned (.string (bs (Lib.itoa n))) ∧ Below w.heap.size w w'
theorem It.below {w0 w1 : World} (h : It w0) (hb : Below w0.heap.size w0 w1) : It w1 := fun w n hb1 h0 h1 => h w n (hb.trans (hb1.mono hb.size)) h0 h1

/-- The event lies in its block, the actor's name in the one behind it; nothing older was touched. -/
structure TkRel (E : Ev) (A : ByteArray) (w wr : World) : Prop where
  cev : Cev wr w.heap.size E
  cel : wr.heap[w.heap.size + 1]? = some (.cells #[.string A] 9 (0, 0))
  low : Below w.heap.size w wr
section
variable {E : Ev} {A : ByteArray} {w wr w1 : World}
theorem TkRel.lt (h : TkRel E A w wr) : w.heap.size + 1 < wr.heap.size := (Array.getElem?_eq_some_iff.1 h.cel).1
theorem TkRel.call (h : TkRel E A w wr) (hb : Below wr.heap.size wr w1) : TkRel E A w w1 :=
  ⟨h.cev.behind hb (Nat.le_refl _), by rw [hb.block _ h.lt]; exact h.cel, h.low.trans (hb.mono h.low.size)⟩
theorem TkRel.drew (h : TkRel E A w wr) : TkRel E A w wr.drew := ⟨h.cev, h.cel, ⟨h.low.os, h.low.tape, h.low.output, h.low.size, h.low.block⟩⟩
theorem TkRel.box (h : TkRel E A w wr) (o : Obj) : TkRel E A w (wr.alloc o) := h.call ((Below.refl _ _).alloc (Nat.le_refl _) _)
theorem TkRel.name (h : TkRel E A w wr) : wr.cell? ⟨w.heap.size + 1, 0, none⟩ = some (.string A) := by
  rw [cell_of_row wr _ 0 _ _ _ h.cel]; rfl
theorem TkRel.soft (h : TkRel E A w wr) : wr.frozen? ⟨w.heap.size + 1, 0, none⟩ = false := by
  simp only [World.frozen?, h.cel]; simp
theorem TkRel.set (h : TkRel E A w wr) (B : ByteArray) : TkRel E B w (wr.setCell ⟨w.heap.size + 1, 0, none⟩ (.string B)) := by
  refine ⟨h.cev.other (by omega) _ _, ?_, h.low.setCell (by simp) _⟩
  rw [setCell_eq_setRow wr _ 0 _ _ _ _ h.cel, setRow_heap wr _ _ _ _ _ h.cel]; rfl
theorem tk_start (E : Ev) (A : ByteArray) (w : World) : TkRel E A w ((w.alloc (.cells E.cells 48)).alloc (.cells #[.string A] 9)) := by
  refine ⟨(cev_new w E).alloc _, ?_, ((Below.refl _ _).alloc (Nat.le_refl _) _).alloc (by simp) _⟩
  have := heap_alloc_new (w.alloc (.cells E.cells 48)) (.cells #[.string A] 9)
  rw [World.size_alloc] at this; exact this
end

/-- The verb, as the document's inner function lays it. -/
def verbT (own : Bool) (A mine theirs : ByteArray) : ByteArray := if own then ⟨#[89, 111, 117, 32]⟩ ++ mine ++ ⟨#[32]⟩ else A ++ ⟨#[32]⟩ ++ theirs ++ ⟨#[32]⟩
def theT (own : Bool) (T : ByteArray) : ByteArray := if own then ⟨#[116, 104, 101, 32]⟩ ++ T else ⟨#[97, 32]⟩ ++ T

set_option maxHeartbeats 400000 in
theorem verb_any' (own : Bool) (A mine theirs : ByteArray) (po pa : Addr) (w : World) (h1 : w.cell? po = some (.bool own)) (h2 : w.cell? pa = some (.string A)) (hA : A.size ≤ 1048576) (hm : mine.size ≤ 100) (ht : theirs.size ≤ 100) :
    Calls Tryd.prog 45 #[.string mine, .string theirs, .pointer (some po), .pointer (some pa)] w fun e w' => e = .returned (.string (verbT own A mine theirs)) ∧ w' = w := by
  cases own with
  | true =>
    go_enter Tryd.func45, Tryd.ntmps45
    go_wp2
    go_ret
    exact ⟨rfl, rfl⟩
  | false =>
    go_enter Tryd.func45, Tryd.ntmps45
    go_wp2
    go_ret
    exact ⟨rfl, rfl⟩

set_option maxHeartbeats 400000 in
theorem the_any' (own : Bool) (E : Ev) (po : Addr) (b : Nat) (w : World) (h1 : w.cell? po = some (.bool own)) (h2 : Cev w b E) (hT : E.thing.size ≤ 1048576) :
    Calls Tryd.prog 46 #[.pointer (some po), .pointer (some ⟨b, 0, none⟩)] w fun e w' => e = .returned (.string (theT own E.thing)) ∧ w' = w := by
  have h3 := h2.thing
  clear h2
  cases own with
  | true =>
    go_enter Tryd.func46, Tryd.ntmps46
    go_wp2
    go_ret
    exact ⟨rfl, rfl⟩
  | false =>
    go_enter Tryd.func46, Tryd.ntmps46
    go_wp2
    go_ret
    exact ⟨rfl, rfl⟩

theorem calledof_below (d : Int) (w : World) (hv : Vr w) : Calls Tryd.prog 43 #[.int .i64 d] w fun e w' => e = .returned (.string (bs (calledI d))) ∧ Below w.heap.size w w' :=
  (calledof_any d w hv).mono fun e w' ⟨he, hw⟩ => ⟨he, by rw [hw]; exact Below.refl _ _⟩
end Go.Proofs.YtdembcpljjgbkadDoor
