/-
  The contract of GoodTelnet of the document's own answer.
-/
import Derived.Test.YtbjcmnemcgadjaaPure
namespace Go.Proofs.Ytbjcmnemcgadjaa
open Go.RowKit
set_option linter.unusedVariables false

theorem good_eq {t : Tel} {b : Bool} (h : b = true ↔ Fine t) : Ending.returned (.bool b) = .returned (.bool (good t)) := by
  rw [← fine_iff] at h
  rw [Bool.eq_iff_iff.2 h]

theorem not_good {t : Tel} (h : ¬ Fine t) : Ending.returned (.bool false) = .returned (.bool (good t)) :=
  good_eq ⟨fun e => (by cases e), fun f => absurd f h⟩

theorem empty_eq (s : ByteArray) : s.toList.isEmpty = true ↔ s = ⟨#[]⟩ := by
  have h := empty_iff s
  cases e : s.toList.isEmpty
  · rw [e] at h
    simp only [Bool.false_eq_true, false_iff]
    exact h.1 rfl
  · rw [e] at h
    simp only [true_iff]
    exact Classical.byContradiction fun hn => by have := h.2 hn; cases this

theorem fine_text {t : Tel} (h0 : 0 ≤ t.u0 ∧ t.u0 ≤ 2) (h1 : 0 ≤ t.u1 ∧ t.u1 ≤ 2) (h2 : t.u2 = 0) (g0 : t.t0 = 0) (g1 : 0 ≤ t.t1 ∧ t.t1 ≤ 2) (g2 : 0 ≤ t.t2 ∧ t.t2 ≤ 2) (hh : 0 ≤ t.height ∧ t.height ≤ 200) (h16 : t.sub.size ≤ 16) (hp : t.pos = 0 ∨ t.pos = 1) (hv : t.verb = 0) : t.sub.toList.isEmpty = true ↔ Fine t := by
  rw [empty_eq]
  exact ⟨fun e => ⟨by omega, by omega, h16, fun _ => e, fun h => by omega, fun _ => hv, h0, h1, h2, g0, g1, g2, hh.1, hh.2⟩, fun f => f.sub0 (by omega)⟩

theorem fine_verb {t : Tel} (h0 : 0 ≤ t.u0 ∧ t.u0 ≤ 2) (h1 : 0 ≤ t.u1 ∧ t.u1 ≤ 2) (h2 : t.u2 = 0) (g0 : t.t0 = 0) (g1 : 0 ≤ t.t1 ∧ t.t1 ≤ 2) (g2 : 0 ≤ t.t2 ∧ t.t2 ≤ 2) (hh : 0 ≤ t.height ∧ t.height ≤ 200) (h16 : t.sub.size ≤ 16) (hp : t.pos = 2) (hv : 251 ≤ t.verb ∧ t.verb ≤ 254) : t.sub.toList.isEmpty = true ↔ Fine t := by
  rw [empty_eq]
  exact ⟨fun e => ⟨by omega, by omega, h16, fun _ => e, fun _ => hv, fun h => absurd hp h, h0, h1, h2, g0, g1, g2, hh.1, hh.2⟩, fun f => f.sub0 (by omega)⟩

theorem fine_sub {t : Tel} (h0 : 0 ≤ t.u0 ∧ t.u0 ≤ 2) (h1 : 0 ≤ t.u1 ∧ t.u1 ≤ 2) (h2 : t.u2 = 0) (g0 : t.t0 = 0) (g1 : 0 ≤ t.t1 ∧ t.t1 ≤ 2) (g2 : 0 ≤ t.t2 ∧ t.t2 ≤ 2) (hh : 0 ≤ t.height ∧ t.height ≤ 200) (h16 : t.sub.size ≤ 16) (hp : t.pos = 3 ∨ t.pos = 4) : (t.verb == 0) = true ↔ Fine t := by
  rw [beq_iff_eq]
  exact ⟨fun e => ⟨by omega, by omega, h16, fun h => by omega, fun h => by omega, fun _ => e, h0, h1, h2, g0, g1, g2, hh.1, hh.2⟩, fun f => f.verb0 (by omega)⟩

set_option maxRecDepth 100000 in
set_option maxHeartbeats 2000000 in
theorem refgood_any (t : Tel) (w : World) (hs : t.sub.size ≤ maxLen) : Calls Try.prog 12 #[t.val] w fun e w' => e = .returned (.bool (good t)) ∧ Below w.heap.size w w' := by
  unfold maxLen at hs
  unfold Tel.val Tel.cells
  go_enter Try.func12, Try.ntmps12
  go_wp2
  refine wp_loop_rounds 4 ?_
  rw [rounds_succ]
  go_wp2
  · go_ret
    exact ⟨not_good (fun f => by have a := f.u0; have b := f.u1; have c := f.t1; have d := f.t2; have e := f.u2; have g := f.t0; omega), (Below.refl _ _).alloc (Nat.le_refl _) _⟩
  · rw [rounds_succ]
    go_wp2
    · go_ret
      exact ⟨not_good (fun f => by have a := f.u0; have b := f.u1; have c := f.t1; have d := f.t2; have e := f.u2; have g := f.t0; omega), (Below.refl _ _).alloc (Nat.le_refl _) _⟩
    · rw [rounds_succ]
      go_wp2
      · go_ret
        exact ⟨not_good (fun f => by have a := f.u0; have b := f.u1; have c := f.t1; have d := f.t2; have e := f.u2; have g := f.t0; omega), (Below.refl _ _).alloc (Nat.le_refl _) _⟩
      · rw [rounds_succ]
        go_wp2
        · go_ret
          exact ⟨not_good (fun f => by have a := f.u0; have b := f.u1; have c := f.t1; have d := f.t2; have e := f.u2; have g := f.t0; have k := f.h0; have l := f.h200; have m := f.sub16; have p0 := f.pos0; have p4 := f.pos4; have v0 := f.verb0; have v2 := f.verb2; omega), (Below.refl _ _).alloc (Nat.le_refl _) _⟩
        · go_ret
          have q0 : t.pos = 0 := by simpa using ‹(t.pos == 0) = true›
          exact ⟨good_eq (fine_text (t := t) (by omega) (by omega) (by omega) (by omega) (by omega) (by omega) (by omega) (by omega) (.inl q0) (by omega)), (Below.refl _ _).alloc (Nat.le_refl _) _⟩
        · go_ret
          have q0 : t.pos = 0 := by simpa using ‹(t.pos == 0) = true›
          exact ⟨not_good (fun f => by have a := f.u0; have b := f.u1; have c := f.t1; have d := f.t2; have e := f.u2; have g := f.t0; have k := f.h0; have l := f.h200; have m := f.sub16; have p0 := f.pos0; have p4 := f.pos4; have v0 := f.verb0; have v2 := f.verb2; omega), (Below.refl _ _).alloc (Nat.le_refl _) _⟩
        · go_ret
          have q1 : t.pos = 1 := by simpa using ‹(t.pos == 1) = true›
          exact ⟨good_eq (fine_text (t := t) (by omega) (by omega) (by omega) (by omega) (by omega) (by omega) (by omega) (by omega) (.inr q1) (by omega)), (Below.refl _ _).alloc (Nat.le_refl _) _⟩
        · go_ret
          have q1 : t.pos = 1 := by simpa using ‹(t.pos == 1) = true›
          exact ⟨not_good (fun f => by have a := f.u0; have b := f.u1; have c := f.t1; have d := f.t2; have e := f.u2; have g := f.t0; have k := f.h0; have l := f.h200; have m := f.sub16; have p0 := f.pos0; have p4 := f.pos4; have v0 := f.verb0; have v2 := f.verb2; omega), (Below.refl _ _).alloc (Nat.le_refl _) _⟩
        · go_ret
          have q2 : t.pos = 2 := by simpa using ‹(t.pos == 2) = true›
          exact ⟨good_eq (fine_verb (t := t) (by omega) (by omega) (by omega) (by omega) (by omega) (by omega) (by omega) (by omega) q2 (by omega)), (Below.refl _ _).alloc (Nat.le_refl _) _⟩
        · go_ret
          have q2 : t.pos = 2 := by simpa using ‹(t.pos == 2) = true›
          exact ⟨not_good (fun f => by have a := f.u0; have b := f.u1; have c := f.t1; have d := f.t2; have e := f.u2; have g := f.t0; have k := f.h0; have l := f.h200; have m := f.sub16; have p0 := f.pos0; have p4 := f.pos4; have v0 := f.verb0; have v2 := f.verb2; omega), (Below.refl _ _).alloc (Nat.le_refl _) _⟩
        · go_ret
          have q2 : t.pos = 2 := by simpa using ‹(t.pos == 2) = true›
          exact ⟨not_good (fun f => by have a := f.u0; have b := f.u1; have c := f.t1; have d := f.t2; have e := f.u2; have g := f.t0; have k := f.h0; have l := f.h200; have m := f.sub16; have p0 := f.pos0; have p4 := f.pos4; have v0 := f.verb0; have v2 := f.verb2; omega), (Below.refl _ _).alloc (Nat.le_refl _) _⟩
        · go_ret
          have q3 : t.pos = 3 := by simpa using ‹(t.pos == 3) = true›
          exact ⟨good_eq (fine_sub (t := t) (by omega) (by omega) (by omega) (by omega) (by omega) (by omega) (by omega) (by omega) (.inl q3)), (Below.refl _ _).alloc (Nat.le_refl _) _⟩
        · go_ret
          have q4 : t.pos = 4 := by simpa using ‹(t.pos == 4) = true›
          exact ⟨good_eq (fine_sub (t := t) (by omega) (by omega) (by omega) (by omega) (by omega) (by omega) (by omega) (by omega) (.inr q4)), (Below.refl _ _).alloc (Nat.le_refl _) _⟩
        · go_ret
          have q0 : ¬ t.pos = 0 := by simpa using ‹(t.pos == 0) = false›
          have q1 : ¬ t.pos = 1 := by simpa using ‹(t.pos == 1) = false›
          have q2 : ¬ t.pos = 2 := by simpa using ‹(t.pos == 2) = false›
          have q3 : ¬ t.pos = 3 := by simpa using ‹(t.pos == 3) = false›
          have q4 : ¬ t.pos = 4 := by simpa using ‹(t.pos == 4) = false›
          exact ⟨not_good (fun f => by have a := f.u0; have b := f.u1; have c := f.t1; have d := f.t2; have e := f.u2; have g := f.t0; have k := f.h0; have l := f.h200; have m := f.sub16; have p0 := f.pos0; have p4 := f.pos4; have v0 := f.verb0; have v2 := f.verb2; omega), (Below.refl _ _).alloc (Nat.le_refl _) _⟩
        · go_ret
          exact ⟨not_good (fun f => by have a := f.u0; have b := f.u1; have c := f.t1; have d := f.t2; have e := f.u2; have g := f.t0; have k := f.h0; have l := f.h200; have m := f.sub16; have p0 := f.pos0; have p4 := f.pos4; have v0 := f.verb0; have v2 := f.verb2; omega), (Below.refl _ _).alloc (Nat.le_refl _) _⟩
        · go_ret
          exact ⟨not_good (fun f => by have a := f.u0; have b := f.u1; have c := f.t1; have d := f.t2; have e := f.u2; have g := f.t0; have k := f.h0; have l := f.h200; have m := f.sub16; have p0 := f.pos0; have p4 := f.pos4; have v0 := f.verb0; have v2 := f.verb2; omega), (Below.refl _ _).alloc (Nat.le_refl _) _⟩
        · go_ret
          exact ⟨not_good (fun f => by have a := f.u0; have b := f.u1; have c := f.t1; have d := f.t2; have e := f.u2; have g := f.t0; have k := f.h0; have l := f.h200; have m := f.sub16; have p0 := f.pos0; have p4 := f.pos4; have v0 := f.verb0; have v2 := f.verb2; omega), (Below.refl _ _).alloc (Nat.le_refl _) _⟩
        · go_ret
          exact ⟨not_good (fun f => by have a := f.u0; have b := f.u1; have c := f.t1; have d := f.t2; have e := f.u2; have g := f.t0; have k := f.h0; have l := f.h200; have m := f.sub16; have p0 := f.pos0; have p4 := f.pos4; have v0 := f.verb0; have v2 := f.verb2; omega), (Below.refl _ _).alloc (Nat.le_refl _) _⟩
      · go_ret
        exact ⟨not_good (fun f => by have a := f.u0; have b := f.u1; have c := f.t1; have d := f.t2; have e := f.u2; have g := f.t0; omega), (Below.refl _ _).alloc (Nat.le_refl _) _⟩
      · go_ret
        exact ⟨not_good (fun f => by have a := f.u0; have b := f.u1; have c := f.t1; have d := f.t2; have e := f.u2; have g := f.t0; omega), (Below.refl _ _).alloc (Nat.le_refl _) _⟩
      · go_ret
        exact ⟨not_good (fun f => by have a := f.u0; have b := f.u1; have c := f.t1; have d := f.t2; have e := f.u2; have g := f.t0; omega), (Below.refl _ _).alloc (Nat.le_refl _) _⟩
    · go_ret
      exact ⟨not_good (fun f => by have a := f.u0; have b := f.u1; have c := f.t1; have d := f.t2; have e := f.u2; have g := f.t0; omega), (Below.refl _ _).alloc (Nat.le_refl _) _⟩
    · go_ret
      exact ⟨not_good (fun f => by have a := f.u0; have b := f.u1; have c := f.t1; have d := f.t2; have e := f.u2; have g := f.t0; omega), (Below.refl _ _).alloc (Nat.le_refl _) _⟩
    · go_ret
      exact ⟨not_good (fun f => by have a := f.u0; have b := f.u1; have c := f.t1; have d := f.t2; have e := f.u2; have g := f.t0; omega), (Below.refl _ _).alloc (Nat.le_refl _) _⟩
  · go_ret
    exact ⟨not_good (fun f => by have a := f.u0; have b := f.u1; have c := f.t1; have d := f.t2; have e := f.u2; have g := f.t0; omega), (Below.refl _ _).alloc (Nat.le_refl _) _⟩
  · go_ret
    exact ⟨not_good (fun f => by have a := f.u0; have b := f.u1; have c := f.t1; have d := f.t2; have e := f.u2; have g := f.t0; omega), (Below.refl _ _).alloc (Nat.le_refl _) _⟩
  · go_ret
    exact ⟨not_good (fun f => by have a := f.u0; have b := f.u1; have c := f.t1; have d := f.t2; have e := f.u2; have g := f.t0; omega), (Below.refl _ _).alloc (Nat.le_refl _) _⟩
end Go.Proofs.Ytbjcmnemcgadjaa
