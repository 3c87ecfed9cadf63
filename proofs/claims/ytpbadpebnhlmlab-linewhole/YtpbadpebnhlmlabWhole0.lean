/-
  Plain mathematics for the law LineWhole: lines that may stand, each ended in one of four ways.
-/
import Derived.Test.YtpbadpebnhlmlabNext
import Derived.Test.YtpbadpebnhlmlabErasesW
namespace Go.Proofs.Ytpbadpebnhlmlab
open Go.RowKit
set_option linter.unusedVariables false

/-- The four ways in which a line ends, and whether that leaves a return. -/
def Ends (T : ByteArray) (ρ : Bool) : Prop := (T = ⟨#[13, 10]⟩ ∧ ρ = false) ∨ (T = ⟨#[10]⟩ ∧ ρ = false) ∨ (T = ⟨#[13, 0]⟩ ∧ ρ = false) ∨ (T = ⟨#[13]⟩ ∧ ρ = true)

def txt (T : ByteArray) (xs : List ByteArray) : ByteArray := xs.foldl (fun s x => s ++ (x ++ T)) ⟨#[]⟩

theorem txt_snoc (T : ByteArray) (xs : List ByteArray) (x : ByteArray) : txt T (xs ++ [x]) = txt T xs ++ (x ++ T) := by simp [txt, List.foldl_append]

theorem snoc_ind {P : List ByteArray → Prop} (h0 : P []) (h1 : ∀ xs x, P xs → P (xs ++ [x])) (xs : List ByteArray) : P xs := by
  rw [← List.reverse_reverse xs]
  induction xs.reverse with
  | nil => exact h0
  | cons x l ih => rw [List.reverse_cons]; exact h1 _ _ ih

theorem ends_size {T : ByteArray} {ρ : Bool} (h : Ends T ρ) : T.size ≤ 2 := by
  rcases h with ⟨rfl, _⟩ | ⟨rfl, _⟩ | ⟨rfl, _⟩ | ⟨rfl, _⟩ <;> decide

theorem txt_size {T : ByteArray} {ρ : Bool} (hT : Ends T ρ) (xs : List ByteArray) (h : ∀ x ∈ xs, gtext x = true) : (txt T xs).size ≤ 62 * xs.length := by
  have h2 := ends_size hT
  revert h
  refine snoc_ind (P := fun xs => (∀ x ∈ xs, gtext x = true) → (txt T xs).size ≤ 62 * xs.length) ?_ ?_ xs
  · intro _; simp [txt]; rfl
  · intro xs x ih h
    have h1 := ((gtext_iff x).1 (h x (by simp))).1
    have := ih (fun y hy => h y (by simp [hy]))
    rw [txt_snoc, ByteArray.size_append, ByteArray.size_append, List.length_append]
    simp only [List.length_cons, List.length_nil]
    omega

/-- A line, from an empty one on, whether or not a return stands. -/
theorem feed_line (x : ByteArray) (r0 : Bool) (xs : List ByteArray) (hx : gtext x = true) :
    feedL { now := ⟨#[]⟩, long := false, ret := r0, q := xs } x.data.toList = ({ now := x, long := false, ret := if x.size = 0 then r0 else false, q := xs }, 0) := by
  obtain ⟨h60, hv⟩ := (gtext_iff x).1 hx
  obtain ⟨⟨l⟩⟩ := x
  cases l with
  | nil => rfl
  | cons c l =>
    have hsz : (ByteArray.mk (c :: l).toArray).size = l.length + 1 := by simp [ByteArray.size]
    rw [hsz] at h60
    rw [if_neg (by rw [hsz]; omega)]
    have hc := hv c (by simp)
    have hc' : 32 ≤ c.toNat ∧ c.toNat ≤ 126 := by simpa [vis] using hc
    have h10 : ¬ (c = 10 ∨ c = 0) := by rintro (rfl | rfl) <;> simp at hc'
    have h13 : ¬ (c = 13 ∨ c = 10) := by rintro (rfl | rfl) <;> simp at hc'
    have h8 : ¬ (c = 8 ∨ c = 127) := by rintro (rfl | rfl) <;> simp at hc'
    have hs : step { now := ⟨#[]⟩, long := false, ret := r0, q := xs } c = ({ now := ⟨#[c]⟩, long := false, ret := false, q := xs }, 0) := by
      unfold step
      rw [if_neg (fun e => h10 e.2), if_neg h13, if_neg h8, if_neg (by simp [hc]), if_neg (by show ¬ (0 : Nat) = 60; decide)]
      rfl
    simp only [feedL, hs]
    rw [feed_text l _ rfl (fun d hd => hv d (by simp [hd])) (by have : (ByteArray.mk #[c]).size = 1 := rfl; simp only [this]; omega)]
    have : (⟨#[c]⟩ : ByteArray) ++ (⟨l.toArray⟩ : ByteArray) = ⟨(c :: l).toArray⟩ := by apply ByteArray.ext; simp
    simp only [this]

theorem feed_end {T : ByteArray} {ρ : Bool} (hT : Ends T ρ) (x : ByteArray) (r : Bool) (xs : List ByteArray) (hr : r = true → ρ = true) (hl : xs.length < 6) :
    feedL { now := x, long := false, ret := r, q := xs } T.data.toList = ({ now := ⟨#[]⟩, long := false, ret := ρ, q := xs ++ [x] }, 0) := by
  have h6 : ¬ 6 ≤ xs.length := by omega
  rcases hT with ⟨rfl, rfl⟩ | ⟨rfl, rfl⟩ | ⟨rfl, rfl⟩ | ⟨rfl, rfl⟩
  · have : r = false := by cases r with | false => rfl | true => exact absurd (hr rfl) (by simp)
    subst this
    simp [feedL, step, endL, h6]
  · have : r = false := by cases r with | false => rfl | true => exact absurd (hr rfl) (by simp)
    subst this
    simp [feedL, step, endL, h6]
  · have : r = false := by cases r with | false => rfl | true => exact absurd (hr rfl) (by simp)
    subst this
    simp [feedL, step, endL, h6]
  · simp [feedL, step, endL, h6]

theorem feed_txt {T : ByteArray} {ρ : Bool} (hT : Ends T ρ) (xs : List ByteArray) (h : ∀ x ∈ xs, gtext x = true) (hl : xs.length ≤ 6) :
    ∃ r, (r = true → ρ = true) ∧ feedL zl (txt T xs).data.toList = ({ now := ⟨#[]⟩, long := false, ret := r, q := xs }, 0) := by
  revert h hl
  refine snoc_ind (P := fun xs => (∀ x ∈ xs, gtext x = true) → xs.length ≤ 6 → ∃ r, (r = true → ρ = true) ∧ feedL zl (txt T xs).data.toList = ({ now := ⟨#[]⟩, long := false, ret := r, q := xs }, 0)) ?_ ?_ xs
  · intro _ _; exact ⟨false, by simp, rfl⟩
  · intro xs x ih h hl
    rw [List.length_append] at hl
    simp only [List.length_cons, List.length_nil] at hl
    obtain ⟨r, hr, e⟩ := ih (fun y hy => h y (by simp [hy])) (by omega)
    refine ⟨ρ, fun e => e, ?_⟩
    rw [txt_snoc, show (txt T xs ++ (x ++ T)).data.toList = (txt T xs).data.toList ++ (x.data.toList ++ T.data.toList) by simp, feedL_append, e]
    simp only
    rw [feedL_append, feed_line x r xs (h x (by simp))]
    simp only
    rw [feed_end hT x _ xs (by split; exact hr; simp) (by omega)]
    rfl
end Go.Proofs.Ytpbadpebnhlmlab
