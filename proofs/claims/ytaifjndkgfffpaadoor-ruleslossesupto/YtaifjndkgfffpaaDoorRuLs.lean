/-
  Who has lost what by a round: plain mathematics.
-/
import Derived.Test.YtaifjndkgfffpaaDoorMgO
namespace Go.Proofs.YtaifjndkgfffpaaDoor
open Go.RowKit
set_option linter.unusedVariables false

def hurtE (c : Nat) (E : Ev) : Int := if E.kind = 14 ∧ E.other = (c : Int) then E.num else 0
def hurtF (Fs : List Ev) (c : Nat) : Int := (Fs.map (hurtE c)).sum
def diedE (c : Nat) (E : Ev) : Bool := decide (E.kind = 15) && decide (E.actor = (c : Int))
def diedF (Fs : List Ev) (c : Nat) : Bool := Fs.any (diedE c)
theorem hurt_app (A B : List Ev) (c : Nat) : hurtF (A ++ B) c = hurtF A c + hurtF B c := by simp [hurtF]
theorem died_app (A B : List Ev) (c : Nat) : diedF (A ++ B) c = (diedF A c || diedF B c) := by simp [diedF]
/-- Neither a hit nor a death. -/
def calm (Fs : List Ev) : Prop := ∀ E ∈ Fs, E.kind ≠ 14 ∧ E.kind ≠ 15
theorem calm_hurt {Fs : List Ev} (h : calm Fs) (c : Nat) : hurtF Fs c = 0 := by
  induction Fs with
  | nil => rfl
  | cons E Fs ih =>
    have h1 := h E (List.mem_cons_self ..)
    have h2 := ih (fun F hF => h F (List.mem_cons_of_mem _ hF))
    simp only [hurtF, List.map_cons, List.sum_cons] at h2 ⊢
    rw [h2]; simp [hurtE, h1.1]
theorem calm_died {Fs : List Ev} (h : calm Fs) (c : Nat) : diedF Fs c = false := by
  induction Fs with
  | nil => rfl
  | cons E Fs ih =>
    have h1 := h E (List.mem_cons_self ..)
    have h2 := ih (fun F hF => h F (List.mem_cons_of_mem _ hF))
    simp only [diedF, List.any_cons] at h2 ⊢
    rw [h2]; simp [diedE, h1.2]
theorem tell_kind (L : Ld) (b : Nat) (s : ByteArray) : (tellE L b s).kind = 16 := rfl
theorem look_calm (L : Ld) (b : Nat) : calm (lookE L b) := by
  have key : ∀ E ∈ lookE L b, E.kind = 16 := by
    intro E hE
    unfold lookE at hE
    split at hE
    · simp only [List.mem_append, List.mem_cons, List.not_mem_nil, or_false] at hE
      rcases hE with (h | h) | h
      · rcases h with rfl | rfl <;> rfl
      · split at h
        · simp at h
        · rw [List.mem_singleton.1 h]; rfl
      · unfold othersK at h
        rw [List.mem_map] at h
        obtain ⟨c, _, rfl⟩ := h
        rfl
    · rw [List.mem_singleton.1 hE]; rfl
  intro E hE
  rw [key E hE]; decide
theorem begin_calm (L : Ld) (b : Nat) : calm (beginE L b) := by
  intro E hE
  unfold beginE at hE
  rcases List.mem_cons.1 hE with rfl | h
  · show (17 : Int) ≠ 14 ∧ (17 : Int) ≠ 15; decide
  · exact look_calm L b E h
/-- What hits and deaths a row of events may tell. -/
def Told (Fs : List Ev) : Prop := ∀ E ∈ Fs, (E.kind = 14 → 1 ≤ E.num ∧ E.num ≤ 3 ∧ ∃ c : Nat, c < 6 ∧ E.other = (c : Int)) ∧ (E.kind = 15 → ∃ c : Nat, c < 6 ∧ E.actor = (c : Int))
theorem calm_told {Fs : List Ev} (h : calm Fs) : Told Fs := fun E hE => ⟨fun e => absurd e (h E hE).1, fun e => absurd e (h E hE).2⟩
theorem told_app {A B : List Ev} (h : Told A) (k : Told B) : Told (A ++ B) := fun E hE => by
  rcases List.mem_append.1 hE with hE | hE
  · exact h E hE
  · exact k E hE
theorem told_nonneg {Fs : List Ev} (h : Told Fs) (c : Nat) : 0 ≤ hurtF Fs c ∧ hurtF Fs c ≤ 3 * Fs.length := by
  induction Fs with
  | nil => simp [hurtF]
  | cons E Fs ih =>
    have h1 := ih (fun F hF => h F (List.mem_cons_of_mem _ hF))
    have h2 := (h E (List.mem_cons_self ..)).1
    simp only [hurtF, List.map_cons, List.sum_cons, List.length_cons] at h1 ⊢
    have : 0 ≤ hurtE c E ∧ hurtE c E ≤ 3 := by
      unfold hurtE
      split
      · rename_i hh
        have := h2 hh.1
        omega
      · omega
    omega

structure Lss (L X : Ld) (Fs : List Ev) : Prop where
  told : Told Fs
  alive : ∀ c, c < 6 → diedF Fs c = false → X.health c = L.health c - hurtF Fs c ∧ X.room c = L.room c ∧ X.here c = L.here c
  dead : ∀ c, c < 6 → diedF Fs c = true → L.health c ≤ hurtF Fs c ∧ X.here c = decide (2 ≤ c)

theorem die_other (M : Ld) (c j : Nat) (hj : j ≠ c) : (dieL M c).health j = M.health j ∧ (dieL M c).room j = M.room j ∧ (dieL M c).here j = M.here j := by
  unfold dieL
  split
  · simp [zeroB, Ld.setBeing, hj, letGoL, freeK, dropS, Ld.setFoe, Ld.setHealth]
  · simp [beginL, Ld.setRoom, Ld.setHealth, hj, letGoL, freeK, dropS, Ld.setFoe]
theorem die_here (M : Ld) (c : Nat) (hh : M.here c = true) : (dieL M c).here c = decide (2 ≤ c) := by
  unfold dieL
  by_cases h : c < 2
  · rw [if_pos h]; simp [zeroB, Ld.setBeing]; omega
  · rw [if_neg h]
    have : (beginL (letGoL (M.setHealth c 1) c) c).here c = M.here c := rfl
    rw [this, hh]; simp; omega
theorem lss_step {L X : Ld} {Fs : List Ev} (h : Lss L X Fs) (hg : goodL X = true) (b : Nat) (hb : b < 6) (n : Int) (hn1 : 1 ≤ n) (hn3 : n ≤ 3) (h0 : X.foe b ≠ 0) : Lss L (fightL X b n) (Fs ++ fightE X b n) := by
  have hc : foeN X b < 6 := by
    rcases (good_being hg b hb).2.2.2.2 with h | h
    · exact absurd h h0
    · have := amg_pos h.2; unfold foeN; omega
  unfold fightL fightE
  by_cases hm : meets X b = true
  · rw [if_pos hm, if_pos hm]
    have hh : X.here (foeN X b) = true := by unfold meets at hm; simp at hm; exact hm.1
    generalize foeN X b = c at *
    have tE : Told [allE X { evW X 14 b c with num := n }] := fun E hE => by
      rw [List.mem_singleton.1 hE]
      exact ⟨fun _ => ⟨hn1, hn3, c, hc, rfl⟩, fun e => absurd (show (14 : Int) = 15 from e) (by decide)⟩
    have hurt1 : ∀ j, hurtF [allE X { evW X 14 b c with num := n }] j = if j = c then n else 0 := by
      intro j
      simp only [hurtF, List.map_cons, List.map_nil, List.sum_cons, List.sum_nil, Int.add_zero]
      show (if (14 : Int) = 14 ∧ (c : Int) = (j : Int) then n else 0) = _
      by_cases e : j = c
      · subst e; simp
      · rw [if_neg (by omega), if_neg e]
    have died1 : ∀ j, diedF [allE X { evW X 14 b c with num := n }] j = false := by
      intro j
      simp only [diedF, List.any_cons, List.any_nil, Bool.or_false]
      show (decide ((14 : Int) = 15) && _) = false
      rfl
    have hnn := fun j => (told_nonneg h.told j).1
    by_cases hd : X.health c - n < 1
    · rw [if_pos hd, if_pos hd]
      have hsplit : allE X { evW X 14 b c with num := n } :: dieE (hitL X c n) c = [allE X { evW X 14 b c with num := n }] ++ ([allE ((hitL X c n).setHealth c 1) (evN ((hitL X c n).setHealth c 1) 15 c)] ++ (if c < 2 then [] else beginE (beginL (letGoL ((hitL X c n).setHealth c 1) c) c) c)) := rfl
      have hrest : calm (if c < 2 then [] else beginE (beginL (letGoL ((hitL X c n).setHealth c 1) c) c) c) := by
        split
        · intro E hE; simp at hE
        · exact begin_calm _ _
      generalize (if c < 2 then [] else beginE (beginL (letGoL ((hitL X c n).setHealth c 1) c) c) c) = R at *
      have tD : Told [allE ((hitL X c n).setHealth c 1) (evN ((hitL X c n).setHealth c 1) 15 c)] := fun E hE => by
        rw [List.mem_singleton.1 hE]
        exact ⟨fun e => absurd (show (15 : Int) = 14 from e) (by decide), fun _ => ⟨c, hc, rfl⟩⟩
      have hurt2 : ∀ j, hurtF [allE ((hitL X c n).setHealth c 1) (evN ((hitL X c n).setHealth c 1) 15 c)] j = 0 := by
        intro j
        simp only [hurtF, List.map_cons, List.map_nil, List.sum_cons, List.sum_nil, Int.add_zero]
        have hk : (allE ((hitL X c n).setHealth c 1) (evN ((hitL X c n).setHealth c 1) 15 c)).kind = 15 := rfl
        unfold hurtE
        rw [if_neg (by rw [hk]; rintro ⟨e, _⟩; exact absurd e (by decide))]
      have died2 : ∀ j : Nat, diedF [allE ((hitL X c n).setHealth c 1) (evN ((hitL X c n).setHealth c 1) 15 c)] j = decide (j = c) := by
        intro j
        simp only [diedF, List.any_cons, List.any_nil, Bool.or_false]
        show (decide ((15 : Int) = 15) && decide ((c : Int) = (j : Int))) = _
        rw [Bool.eq_iff_iff]; simp; omega
      rw [hsplit]
      generalize [allE X { evW X 14 b c with num := n }] = A1 at *
      generalize [allE ((hitL X c n).setHealth c 1) (evN ((hitL X c n).setHealth c 1) 15 c)] = A2 at *
      refine ⟨told_app h.told (told_app tE (told_app tD (calm_told hrest))), fun j hj hdj => ?_, fun j hj hdj => ?_⟩
      · rw [died_app, died_app, died_app, died1, died2, calm_died hrest] at hdj
        simp only [Bool.false_or, Bool.or_false, Bool.or_eq_false_iff, decide_eq_false_iff_not] at hdj
        rw [hurt_app, hurt_app, hurt_app, hurt1, hurt2, calm_hurt hrest, if_neg hdj.2]
        have hA := h.alive j hj hdj.1
        have hO := die_other (hitL X c n) c j hdj.2
        have hH : (hitL X c n).health j = X.health j := by simp [hitL, Ld.setHealth, hdj.2]
        rw [hO.1, hO.2.1, hO.2.2, hH]
        exact ⟨by rw [hA.1]; omega, hA.2.1, hA.2.2⟩
      · rw [died_app, died_app, died_app, died1, died2, calm_died hrest] at hdj
        rw [hurt_app, hurt_app, hurt_app, hurt1, hurt2, calm_hurt hrest]
        by_cases e : j = c
        · subst e
          rw [if_pos rfl]
          refine ⟨?_, die_here (hitL X j n) j hh⟩
          cases hx : diedF Fs j with
          | true => have := (h.dead j hj hx).1; omega
          | false => have := (h.alive j hj hx).1; omega
        · rw [if_neg e]
          have hO := die_other (hitL X c n) c j e
          have hx : diedF Fs j = true := by simpa [e] using hdj
          have := h.dead j hj hx
          rw [hO.2.2]
          exact ⟨by omega, this.2⟩
    · rw [if_neg hd, if_neg hd]
      refine ⟨told_app h.told tE, fun j hj hdj => ?_, fun j hj hdj => ?_⟩
      · rw [died_app, died1, Bool.or_false] at hdj
        rw [hurt_app, hurt1]
        have hA := h.alive j hj hdj
        refine ⟨?_, hA.2.1, hA.2.2⟩
        by_cases e : j = c
        · subst e; rw [if_pos rfl]; simp only [hitL, Ld.setHealth, if_true]; rw [hA.1]; omega
        · rw [if_neg e]; simp only [hitL, Ld.setHealth, if_neg e]; rw [hA.1]; omega
      · rw [died_app, died1, Bool.or_false] at hdj
        rw [hurt_app, hurt1]
        have hD := h.dead j hj hdj
        refine ⟨?_, hD.2⟩
        split <;> omega
  · rw [if_neg hm, if_neg hm, List.append_nil]
    exact ⟨h.told, h.alive, h.dead⟩
theorem lss_round {L : Ld} (hg : goodL L = true) (dr : Nat) : ∀ k, k ≤ 6 → Lss L (roundK L dr k).1 (roundK L dr k).2 := by
  intro k
  induction k with
  | zero => intro _; exact ⟨fun E hE => by simp [roundK] at hE, fun c _ _ => ⟨by simp [roundK, hurtF], rfl, rfl⟩, fun c _ h => by simp [roundK, diedF] at h⟩
  | succ k ih =>
    intro hk
    have h := ih (by omega)
    simp only [roundK]
    by_cases h0 : (roundK L dr k).1.foe k = 0
    · rw [if_pos h0]; exact h
    · rw [if_neg h0]
      exact lss_step h (round_good hg dr k (by omega)).1 k (by omega) _ (blow_pos dr k).1 (blow_pos dr k).2 h0
end Go.Proofs.YtaifjndkgfffpaaDoor
