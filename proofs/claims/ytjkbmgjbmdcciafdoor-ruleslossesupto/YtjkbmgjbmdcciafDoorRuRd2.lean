/-
  A round leaves a good land good: plain mathematics.
-/
import Derived.Test.YtjkbmgjbmdcciafDoorRuFt3
namespace Go.Proofs.YtjkbmgjbmdcciafDoor
open Go.RowKit
set_option linter.unusedVariables false

theorem fight_good {L : Ld} (hg : goodL L = true) (b : Nat) (hb : b < 6) (n : Int) (hn1 : 1 ≤ n) (hn3 : n ≤ 3) (h0 : L.foe b ≠ 0) : goodL (fightL L b n) = true ∧ Alike L (fightL L b n) := by
  have hc : foeN L b < 6 := by
    rcases (good_being hg b hb).2.2.2.2 with h | h
    · exact absurd h h0
    · have := amg_pos h.2; unfold foeN; omega
  unfold fightL
  by_cases hm : meets L b = true
  · rw [if_pos hm]
    have hh : L.here (foeN L b) = true := by unfold meets at hm; simp at hm; exact hm.1
    have hge := good_being hg (foeN L b) hc
    have hp : 0 < L.health (foeN L b) := by have := hge.2.2.2.1; rw [hh] at this; simpa using this.symm
    by_cases hd : L.health (foeN L b) - n < 1
    · rw [if_pos hd]
      have hg2 : goodL ((hitL L (foeN L b) n).setHealth (foeN L b) 1) = true := by unfold hitL; rw [health_twice]; exact good_health hg hc hh (by omega) (by omega)
      exact ⟨die_good _ hc hg2 hh, (al_health L _ _).trans (al_die _ _)⟩
    · rw [if_neg hd]
      exact ⟨good_health hg hc hh (by omega) (by omega), al_health L _ _⟩
  · rw [if_neg hm]
    exact ⟨good_foe hg b (.inl rfl), al_foe L b 0⟩
theorem round_good {L : Ld} (hg : goodL L = true) (dr : Nat) : ∀ k, k ≤ 6 → goodL (roundK L dr k).1 = true ∧ Alike L (roundK L dr k).1 := by
  intro k
  induction k with
  | zero => intro _; exact ⟨hg, Alike.refl L⟩
  | succ k ih =>
    intro hk
    obtain ⟨h1, h2⟩ := ih (by omega)
    simp only [roundK]
    by_cases h0 : (roundK L dr k).1.foe k = 0
    · rw [if_pos h0]; exact ⟨h1, h2⟩
    · rw [if_neg h0]
      have := fight_good h1 k (by omega) (blowN dr k) (blow_pos dr k).1 (blow_pos dr k).2 h0
      exact ⟨this.1, h2.trans this.2⟩
/-- What is left of the draw. -/
def drawN (draw : Int) : Nat := ((draw.tmod 3 + 3).tmod 3).toNat
theorem draw_eq (draw : Int) : (draw.tmod 3 + 3).tmod 3 = (drawN draw : Int) ∧ drawN draw < 3 ∧ -3 < draw.tmod 3 ∧ draw.tmod 3 < 3 := by
  have h1 : -3 < draw.tmod 3 := Int.lt_tmod_of_pos draw (by decide)
  have h2 : draw.tmod 3 < 3 := Int.tmod_lt_of_pos draw (by decide)
  have h3 : (draw.tmod 3 + 3).tmod 3 < 3 := Int.tmod_lt_of_pos _ (by decide)
  have h4 : 0 ≤ (draw.tmod 3 + 3).tmod 3 := Int.tmod_nonneg 3 (by omega)
  unfold drawN
  omega
end Go.Proofs.YtjkbmgjbmdcciafDoor
