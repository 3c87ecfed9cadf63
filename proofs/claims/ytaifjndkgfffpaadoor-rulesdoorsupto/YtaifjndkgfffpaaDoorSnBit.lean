/-
  Bits of numbers: plain mathematics.
-/
import Derived.Test.YtaifjndkgfffpaaDoorBs
namespace Go.Proofs.YtaifjndkgfffpaaDoor
set_option linter.unusedVariables false

theorem or12 : bits .or .i64 1 2 = 3 := by decide
theorem or14 : bits .or .i64 1 4 = 5 := by decide
theorem or34 : bits .or .i64 3 4 = 7 := by decide
theorem or04 : bits .or .i64 0 4 = 4 := by decide
theorem and11 : bits .and .i64 1 1 = 1 := by decide
theorem and31 : bits .and .i64 3 1 = 1 := by decide
theorem and51 : bits .and .i64 5 1 = 1 := by decide
theorem and71 : bits .and .i64 7 1 = 1 := by decide
theorem and12 : bits .and .i64 1 2 = 0 := by decide
theorem and32 : bits .and .i64 3 2 = 2 := by decide
theorem and52 : bits .and .i64 5 2 = 0 := by decide
theorem and72 : bits .and .i64 7 2 = 2 := by decide
theorem and14 : bits .and .i64 1 4 = 0 := by decide

/-- The last bit is what is left by two. -/
theorem and_one (x : Int) : (bits .and .i64 x 1 = 0) ↔ x.tmod 2 = 0 := by
  have e : bits .and .i64 x 1 = IntKind.i64.wrap ((BitVec.ofInt 64 x &&& 1#64).toNat : Nat) := rfl
  rw [e]
  have h1 : (BitVec.ofInt 64 x &&& 1#64).toNat = (x % 2).toNat := by
    rw [BitVec.toNat_and, BitVec.toNat_ofInt]
    have : (1#64).toNat = 1 := rfl
    rw [this, Nat.and_one_is_mod]
    omega
  rw [h1]
  have hm : x % 2 = 0 ∨ x % 2 = 1 := by omega
  rcases hm with h | h
  · rw [h]
    have : IntKind.i64.wrap ((Int.toNat 0 : Nat) : Int) = 0 := by decide
    rw [this]
    constructor
    · intro _; rw [← Int.dvd_iff_tmod_eq_zero]; omega
    · intro _; rfl
  · rw [h]
    have : IntKind.i64.wrap ((Int.toNat 1 : Nat) : Int) = 1 := by decide
    rw [this]
    constructor
    · intro h; omega
    · intro ht
      rw [← Int.dvd_iff_tmod_eq_zero] at ht; omega
end Go.Proofs.YtaifjndkgfffpaaDoor
