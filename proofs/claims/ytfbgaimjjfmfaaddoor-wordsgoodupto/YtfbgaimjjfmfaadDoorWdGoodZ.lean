/-
  WordsGood's walk, all classes together.
-/
import Derived.Test.YtfbgaimjjfmfaadDoorWdGoodW
namespace Go.Proofs.YtfbgaimjjfmfaadDoor
open Go.RowKit
set_option linter.unusedVariables false

theorem isE {l : List UInt8} (h : l ≠ []) : l.isEmpty = false := by cases l <;> simp_all

theorem good_walk (s : ByteArray) (w : World) (hs : s.size ≤ 8796093022207) (hv : Vb w) :
    Calls Tryd.prog 5 #[.string s] w fun e w' => e = .returned (.bool true) ∧ Below w.heap.size w w' := by
  rcases parse_good s.data.toList with ⟨h1, h2⟩ | ⟨h1, h2⟩
  · exact good_bad s w hs hv _ h2 (by rw [← h1])
  · have hp : parseL s.data.toList = ((parseL s.data.toList).1, 0) := by rw [← h2]
    generalize (parseL s.data.toList).1 = o at h1 hp
    obtain ⟨V, N, A, P, Q, R⟩ := o
    obtain ⟨g1, g2, g3, g4, g5, g6⟩ := h1
    simp only at g1 g2 g3 g4 g5 g6
    have hR : V ≠ 11 → R.isEmpty = true := fun h => by
      cases hr : R with
      | nil => rfl
      | cons a r => exact absurd (g4.1 (by rw [hr]; simp)) h
    have hQ : V ≠ 7 → V ≠ 9 → V ≠ 10 → Q.isEmpty = true := fun a b c => by
      cases hq : Q with
      | nil => rfl
      | cons x r => have := g5 (by rw [hq]; simp); omega
    have hA : V ≠ 7 → V ≠ 8 → V ≠ 9 → A = false := fun a b c => by
      cases hA : A with
      | false => rfl
      | true => have := g3 hA; omega
    by_cases h7 : V = 7
    · subst h7
      cases A
      · cases hq : Q.isEmpty
        · exact good_7_false_n s w hs hv N g2 P Q R hq (hR (by omega)) hp
        · exact good_7_false_e s w hs hv N g2 P Q R hq (hR (by omega)) hp
      · cases hq : Q.isEmpty
        · exact good_7_true_n s w hs hv N g2 P Q R hq (hR (by omega)) hp
        · exact good_7_true_e s w hs hv N g2 P Q R hq (hR (by omega)) hp
    by_cases h8 : V = 8
    · subst h8
      have hq := hQ (by omega) (by omega) (by omega)
      cases A
      · exact good_8_false_e s w hs hv N g2 P Q R hq (hR (by omega)) hp
      · exact good_8_true_e s w hs hv N g2 P Q R hq (hR (by omega)) hp
    by_cases h9 : V = 9
    · subst h9
      have hq : Q.isEmpty = false := isE fun e => by have := (g6 e).1; omega
      cases A
      · exact good_9_false_n s w hs hv N g2 P Q R hq (hR (by omega)) hp
      · exact good_9_true_n s w hs hv N g2 P Q R hq (hR (by omega)) hp
    obtain rfl := hA h7 h8 h9
    by_cases h10 : V = 10
    · subst h10
      have hq : Q.isEmpty = false := isE fun e => by have := (g6 e).2; omega
      exact good_10_false_n s w hs hv N g2 P Q R hq (hR (by omega)) hp
    have hq := hQ h7 h9 h10
    by_cases h11 : V = 11
    · subst h11
      exact good_11_false_e s w hs hv N g2 P Q R hq (isE (g4.2 rfl)) hp
    · exact good_other s w hs hv V g1 (by simp; omega) (by simp; omega) (by simp; omega) (by simp; omega) (by simp; omega) (by simp; omega) (by simp; omega) (by simp; omega) (by simp; omega) N g2 P Q R hq (hR h11) hp
end Go.Proofs.YtfbgaimjjfmfaadDoor
