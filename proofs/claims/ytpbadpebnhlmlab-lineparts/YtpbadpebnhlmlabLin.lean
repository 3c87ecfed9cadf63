/-
  Plain mathematics of lines: what waits, what is good, one byte's step, all bytes. Nothing of the program.
-/
import Derived.WalkKit
namespace Go.Proofs.Ytpbadpebnhlmlab

/-- What comes in, as lines. -/
structure Lin where
  now : ByteArray
  long : Bool
  ret : Bool
  q : List ByteArray

/-- Its cells in memory; v: the list that waits. -/
def Lin.cells (L : Lin) (v : Value) : Array Value := #[.string L.now, .bool L.long, .bool L.ret, v]

def vis (b : UInt8) : Bool := decide (32 ≤ b.toNat) && decide (b.toNat ≤ 126)
def gtext (s : ByteArray) : Bool := decide (s.size ≤ 60) && s.data.toList.all vis
def good (L : Lin) : Bool := !(L.ret && (L.now.size != 0 || L.long)) && decide (L.q.length ≤ 6) && gtext L.now && L.q.all gtext

/-- A line ends. -/
def endL (L : Lin) : Lin := { L with now := ⟨#[]⟩, long := false, q := if 6 ≤ L.q.length then L.q else L.q ++ [L.now] }

def step (L : Lin) (b : UInt8) : Lin × Nat :=
  if L.ret = true ∧ (b = 10 ∨ b = 0) then ({ L with ret := false }, 0)
  else if b = 13 ∨ b = 10 then ({ endL L with ret := b == 13 }, if 6 ≤ L.q.length then 1 else 0)
  else if b = 8 ∨ b = 127 then ({ L with ret := false, now := L.now.extract 0 (L.now.size - 1) }, 0)
  else if vis b = false then ({ L with ret := false }, 0)
  else if L.now.size = 60 then ({ L with ret := false, long := true }, 0)
  else ({ L with ret := false, now := L.now ++ ⟨#[b]⟩ }, 0)

def feedL (L : Lin) : List UInt8 → Lin × Nat
  | [] => (L, 0)
  | b :: bs => ((feedL (step L b).1 bs).1, (step L b).2 + (feedL (step L b).1 bs).2)

theorem feedL_append (L : Lin) (a b : List UInt8) : feedL L (a ++ b) = ((feedL (feedL L a).1 b).1, (feedL L a).2 + (feedL (feedL L a).1 b).2) := by
  induction a generalizing L with
  | nil => simp [feedL]
  | cons c a ih => simp only [List.cons_append, feedL, ih]; ext1 <;> simp [Nat.add_assoc]

theorem step_le (L : Lin) (b : UInt8) : (step L b).2 ≤ 1 := by
  unfold step; repeat' split
  all_goals simp

theorem feed_le (L : Lin) (a : List UInt8) : (feedL L a).2 ≤ a.length := by
  induction a generalizing L with
  | nil => simp [feedL]
  | cons c a ih => have h1 := step_le L c; have h2 := ih (step L c).1; simp only [feedL, List.length_cons]; omega

structure Fine (L : Lin) : Prop where
  ret : L.ret = true → L.now.size = 0 ∧ L.long = false
  len : L.q.length ≤ 6
  now : gtext L.now = true
  all : ∀ s ∈ L.q, gtext s = true

theorem fine_iff (L : Lin) : good L = true ↔ Fine L := by
  unfold good
  simp only [Bool.and_eq_true, decide_eq_true_eq, List.all_eq_true, Bool.not_eq_true', Bool.and_eq_false_imp, Bool.or_eq_false_iff, bne_eq_false_iff_eq]
  constructor
  · rintro ⟨⟨⟨h1, h2⟩, h3⟩, h4⟩; exact ⟨h1, h2, h3, h4⟩
  · rintro ⟨h1, h2, h3, h4⟩; exact ⟨⟨⟨h1, h2⟩, h3⟩, h4⟩

theorem gtext_iff (s : ByteArray) : gtext s = true ↔ s.size ≤ 60 ∧ ∀ c ∈ s.data.toList, vis c = true := by
  unfold gtext; simp only [Bool.and_eq_true, decide_eq_true_eq, List.all_eq_true]

theorem gtext_nil : gtext ⟨#[]⟩ = true := by decide

theorem gtext_cut {s : ByteArray} (h : gtext s = true) (n : Nat) : gtext (s.extract 0 n) = true := by
  rw [gtext_iff] at h ⊢
  refine ⟨by rw [ByteArray.size_extract]; omega, fun c hc => h.2 c ?_⟩
  have e : (s.extract 0 n).data.toList = s.data.toList.take n := by simp
  rw [e] at hc
  exact List.mem_of_mem_take hc

theorem gtext_put {s : ByteArray} (h : gtext s = true) {b : UInt8} (hb : vis b = true) (hn : s.size ≠ 60) : gtext (s ++ ⟨#[b]⟩) = true := by
  rw [gtext_iff] at h ⊢
  refine ⟨by rw [ByteArray.size_append]; have : (ByteArray.mk #[b]).size = 1 := rfl; omega, fun c hc => ?_⟩
  have e : (s ++ ⟨#[b]⟩).data.toList = s.data.toList ++ [b] := by simp
  rw [e, List.mem_append] at hc
  rcases hc with hc | hc
  · exact h.2 c hc
  · simp at hc; subst hc; exact hb

theorem fine_step {L : Lin} (h : Fine L) (b : UInt8) : Fine (step L b).1 := by
  unfold step
  split
  · exact ⟨fun e => by simp at e, h.len, h.now, h.all⟩
  split
  · refine ⟨fun _ => ⟨rfl, rfl⟩, ?_, gtext_nil, ?_⟩
    · simp only [endL]; split
      · exact h.len
      · simp; omega
    · simp only [endL]; split
      · exact h.all
      · intro s hs; rw [List.mem_append] at hs
        rcases hs with hs | hs
        · exact h.all s hs
        · simp at hs; subst hs; exact h.now
  split
  · exact ⟨fun e => by simp at e, h.len, gtext_cut h.now _, h.all⟩
  split
  · exact ⟨fun e => by simp at e, h.len, h.now, h.all⟩
  split
  · exact ⟨fun e => by simp at e, h.len, h.now, h.all⟩
  · exact ⟨fun e => by simp at e, h.len, gtext_put h.now (by simp_all) (by assumption), h.all⟩

theorem fine_feed {L : Lin} (h : Fine L) (a : List UInt8) : Fine (feedL L a).1 := by
  induction a generalizing L with
  | nil => exact h
  | cons c a ih => exact ih (fine_step h c)

end Go.Proofs.Ytpbadpebnhlmlab
