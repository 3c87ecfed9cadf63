/-
  Tell, where texts are of a size that can be: its contract; whether sense answers at all: the keeper's own question.
-/
import Derived.Test.YtdembcpljjgbkadDoorSnTell
import Derived.Test.YtdembcpljjgbkadDoorLdNew2
namespace Go.Proofs.YtdembcpljjgbkadDoor
open Go.RowKit
set_option linter.unusedVariables false

/-- Texts of at most a million bytes, a number as a machine has it. -/
structure Fit (E : Ev) : Prop where
  n0 : -9223372036854775808 ≤ E.num
  n1 : E.num ≤ 9223372036854775807
  who : E.who.size ≤ 1048576
  whom : E.whom.size ≤ 1048576
  thing : E.thing.size ≤ 1048576
  text : E.text.size ≤ 1048576

theorem called_len (d : Int) : (calledI d).length ≤ 5 := by
  unfold calledI
  split
  · unfold calledL
    split
    · rename_i h
      rcases (show d.toNat = 0 ∨ d.toNat = 1 ∨ d.toNat = 2 ∨ d.toNat = 3 ∨ d.toNat = 4 ∨ d.toNat = 5 by omega) with e | e | e | e | e | e <;> rw [e] <;> decide
    · simp
  · simp

theorem mark_bound {E : Ev} (h : Fit E) (c : UInt8) : (markL E c).length ≤ 1048576 := by
  unfold markL
  have h1 := size_len E.who
  have h2 := size_len E.whom
  have h3 := size_len E.thing
  have h4 := size_len E.text
  have h5 := called_len E.dir
  have h6 := Lib.itoa_length_le E.num h.n0 h.n1
  have := h.who
  have := h.whom
  have := h.thing
  have := h.text
  repeat' split
  all_goals first | omega | simp

theorem fill_bound {E : Ev} (h : Fit E) : ∀ f : List UInt8, (fillL E f).length ≤ f.length * 1048576 := by
  intro f
  induction f with
  | nil => simp [fillL]
  | cons c f ih =>
    have := mark_bound h c
    have e : fillL E (c :: f) = markL E c ++ fillL E f := rfl
    rw [e, List.length_append, List.length_cons]
    omega

theorem fit_known {E : Ev} (h : Fit E) (k : Nat) : Fit (asKnown E k) := by
  refine ⟨h.n0, h.n1, ?_, ?_, h.thing, h.text⟩
  · show (if bitB (E.by' k) 2 = true then bs someoneL else E.who).size ≤ _
    split
    · decide
    · exact h.who
  · show (if (k : Int) = E.other then bs youL else if bitB (E.by' k) 4 = true then bs someoneL else E.whom).size ≤ _
    split
    · decide
    · split
      · decide
      · exact h.whom

theorem form_of_len (E : Ev) (k : Nat) : (formOf E k).length ≤ 25 := by
  have := form_len E.kind
  unfold formOf
  split
  · exact this.1
  · exact this.2

theorem tell_fit (E : Ev) (b : Int) (w : World) (hv : Vb w) (hai : Ai w) (h : Fit E) :
    Calls Tryd.prog 24 #[.agg E.cells, .int .i64 b] w fun e w' => e = .returned (tellA (tellL E b)) ∧ Below w.heap.size w w' :=
  tell_any E b w hv hai h.n0 h.n1 (fun k hk => by
    have h1 := fill_bound (fit_known h k) (formOf E k)
    have h2 := form_of_len E k
    omega)

/-- The event by which it is asked. -/
def ev0 : Ev := { kind := 7, room := 0, actor := 0, other := -1, dir := 0, num := 0, who := ⟨#[99, 97, 116]⟩, whom := ⟨#[]⟩, thing := ⟨#[]⟩, text := ⟨#[112, 117, 114, 114]⟩, by' := fun _ => 0 }
theorem ev0_fit : Fit (allE nl ev0) := ⟨by decide, by decide, by decide, by decide, by decide, by decide⟩
theorem ev0_line : tellL (allE nl ev0) 0 = some [89, 111, 117, 32, 115, 97, 121, 58, 32, 112, 117, 114, 114] := by kernel_rfl
theorem ev0_rat : (allE nl ev0).by' 1 = 0 := by kernel_rfl
theorem ev0_said : tellA (tellL (allE nl ev0) 0) = .tuple #[.string ⟨#[89, 111, 117, 32, 115, 97, 121, 58, 32, 112, 117, 114, 114]⟩, .bool true] := by rw [ev0_line]; rfl
theorem Tryd.zEvent : (Tryd.prog.info? 48).map (fun i => (i.zero, i.size)) = some (some (.agg { ev0 with kind := 0, other := 0, who := ⟨#[]⟩, text := ⟨#[]⟩ : Ev }.cells), 16) := by kernel_rfl
end Go.Proofs.YtdembcpljjgbkadDoor
