/-
  Forms of lines, what their marks stand for, what is told: plain mathematics.
-/
import Derived.Test.YtaifjndkgfffpaaDoorMgAF
import Derived.Test.YtaifjndkgfffpaaDoorMgAL
import Derived.Lib.ItoaMem
namespace Go.Proofs.YtaifjndkgfffpaaDoor
open Go.RowKit
set_option linter.unusedVariables false

/-- The form of the line for the actor; for others. -/
def formA (k : Int) : List UInt8 := if k = 1 then [89, 111, 117, 32, 103, 111, 32, 68, 46] else if k = 2 then [] else if k = 3 then [89, 111, 117, 32, 103, 101, 116, 32, 116, 104, 101, 32, 84, 46] else if k = 4 then [89, 111, 117, 32, 100, 114, 111, 112, 32, 116, 104, 101, 32, 84, 46] else if k = 5 then [89, 111, 117, 32, 112, 117, 116, 32, 116, 104, 101, 32, 84, 32, 105, 110, 116, 111, 32, 116, 104, 101, 32, 88, 46] else if k = 6 then [89, 111, 117, 32, 103, 105, 118, 101, 32, 116, 104, 101, 32, 84, 32, 116, 111, 32, 79, 46] else if k = 7 then [89, 111, 117, 32, 115, 97, 121, 58, 32, 88] else if k = 8 then [89, 111, 117, 32, 111, 112, 101, 110, 32, 116, 104, 101, 32, 84, 46] else if k = 9 then [89, 111, 117, 32, 99, 108, 111, 115, 101, 32, 116, 104, 101, 32, 84, 46] else if k = 10 then [89, 111, 117, 32, 108, 105, 103, 104, 116, 32, 116, 104, 101, 32, 84, 46] else if k = 11 then [89, 111, 117, 32, 100, 111, 117, 115, 101, 32, 116, 104, 101, 32, 84, 46] else if k = 12 then [89, 111, 117, 32, 112, 117, 116, 32, 111, 110, 32, 116, 104, 101, 32, 84, 46] else if k = 13 then [89, 111, 117, 32, 116, 97, 107, 101, 32, 111, 102, 102, 32, 116, 104, 101, 32, 84, 46] else if k = 14 then [89, 111, 117, 32, 104, 105, 116, 32, 79, 32, 102, 111, 114, 32, 78, 46] else if k = 15 then [89, 111, 117, 32, 100, 105, 101, 46] else if k = 16 then [88] else if k = 17 then [66, 101, 32, 119, 101, 108, 99, 111, 109, 101, 46] else if k = 18 then [] else []
def formO (k : Int) : List UInt8 := if k = 1 then [65, 32, 103, 111, 101, 115, 32, 68, 46] else if k = 2 then [65, 32, 99, 111, 109, 101, 115, 32, 102, 114, 111, 109, 32, 68, 46] else if k = 3 then [65, 32, 103, 101, 116, 115, 32, 97, 32, 84, 46] else if k = 4 then [65, 32, 100, 114, 111, 112, 115, 32, 97, 32, 84, 46] else if k = 5 then [65, 32, 112, 117, 116, 115, 32, 97, 32, 84, 32, 105, 110, 116, 111, 32, 97, 32, 88, 46] else if k = 6 then [65, 32, 103, 105, 118, 101, 115, 32, 97, 32, 84, 32, 116, 111, 32, 79, 46] else if k = 7 then [65, 32, 115, 97, 121, 115, 58, 32, 88] else if k = 8 then [65, 32, 111, 112, 101, 110, 115, 32, 97, 32, 84, 46] else if k = 9 then [65, 32, 99, 108, 111, 115, 101, 115, 32, 97, 32, 84, 46] else if k = 10 then [65, 32, 108, 105, 103, 104, 116, 115, 32, 97, 32, 84, 46] else if k = 11 then [65, 32, 100, 111, 117, 115, 101, 115, 32, 97, 32, 84, 46] else if k = 12 then [65, 32, 112, 117, 116, 115, 32, 111, 110, 32, 97, 32, 84, 46] else if k = 13 then [65, 32, 116, 97, 107, 101, 115, 32, 111, 102, 102, 32, 97, 32, 84, 46] else if k = 14 then [65, 32, 104, 105, 116, 115, 32, 79, 32, 102, 111, 114, 32, 78, 46] else if k = 15 then [65, 32, 100, 105, 101, 115, 46] else if k = 16 then [] else if k = 17 then [65, 32, 97, 114, 114, 105, 118, 101, 115, 46] else if k = 18 then [65, 32, 102, 97, 100, 101, 115, 46] else []

/-- The kinds that there are. -/
def isKind (k : Int) : Prop := 1 ≤ k ∧ k ≤ 18
theorem kind_cases (k : Int) : k = 1 ∨ k = 2 ∨ k = 3 ∨ k = 4 ∨ k = 5 ∨ k = 6 ∨ k = 7 ∨ k = 8 ∨ k = 9 ∨ k = 10 ∨ k = 11 ∨ k = 12 ∨ k = 13 ∨ k = 14 ∨ k = 15 ∨ k = 16 ∨ k = 17 ∨ k = 18 ∨ ¬ isKind k := by unfold isKind; omega
theorem formA_none {k : Int} (h : ¬ isKind k) : formA k = [] := by
  unfold isKind at h
  unfold formA
  iterate 18 rw [if_neg (by omega)]
theorem formO_none {k : Int} (h : ¬ isKind k) : formO k = [] := by
  unfold isKind at h
  unfold formO
  iterate 18 rw [if_neg (by omega)]
theorem form_len (k : Int) : (formA k).length ≤ 25 ∧ (formO k).length ≤ 25 := by
  rcases kind_cases k with rfl | rfl | rfl | rfl | rfl | rfl | rfl | rfl | rfl | rfl | rfl | rfl | rfl | rfl | rfl | rfl | rfl | rfl | h
  iterate 18 (exact ⟨by decide, by decide⟩)
  rw [formA_none h, formO_none h]; simp

/-- What a mark stands for. -/
def markL (E : Ev) (c : UInt8) : List UInt8 :=
  if c = 65 then E.who.data.toList else if c = 79 then E.whom.data.toList else if c = 84 then E.thing.data.toList else if c = 68 then calledI E.dir else if c = 88 then E.text.data.toList else if c = 78 then Lib.itoa E.num else [c]
def fillL (E : Ev) (f : List UInt8) : List UInt8 := f.flatMap (markL E)
theorem fill_snoc (E : Ev) (f : List UInt8) (k : Nat) (hk : k < f.length) : fillL E (f.take (k + 1)) = fillL E (f.take k) ++ markL E f[k] := by
  unfold fillL
  rw [List.take_succ_eq_append_getElem hk, List.flatMap_append]
  simp

def someoneL : List UInt8 := [115, 111, 109, 101, 111, 110, 101]
def youL : List UInt8 := [121, 111, 117]
/-- Bits. -/
def bitB (x m : Int) : Bool := bits .and .i64 x m != 0
/-- An event as a being knows it. -/
def asKnown (E : Ev) (b : Nat) : Ev := { E with
  who := if bitB (E.by' b) 2 = true then bs someoneL else E.who
  whom := if (b : Int) = E.other then bs youL else if bitB (E.by' b) 4 = true then bs someoneL else E.whom }
def formOf (E : Ev) (b : Nat) : List UInt8 := if (b : Int) = E.actor then formA E.kind else formO E.kind
/-- What a being is told. -/
def tellL (E : Ev) (b : Int) : Option (List UInt8) :=
  if amg b 6 = true ∧ bitB (E.by' b.toNat) 1 = true ∧ formOf E b.toNat ≠ [] then some (fillL (asKnown E b.toNat) (formOf E b.toNat)) else none
end Go.Proofs.YtaifjndkgfffpaaDoor
