/-
  The document's own answer to whether a land is good: the contract; it is the program's.
-/
import Derived.Test.YtaifjndkgfffpaaGreatDoorMgX
import Derived.Test.YtaifjndkgfffpaaGreatDoorRfGdA
import Derived.Test.YtaifjndkgfffpaaGreatDoorRfGdK
import Derived.Test.YtaifjndkgfffpaaGreatDoorRfGdL
import Derived.Test.YtaifjndkgfffpaaGreatDoorRfGdU
import Derived.Test.YtaifjndkgfffpaaGreatDoorMgF
namespace Go.Proofs.YtaifjndkgfffpaaGreatDoor
open Go.RowKit
set_option linter.unusedVariables false
theorem goodland_any (L : Ld) (w : World) : Calls Tryz.prog 10 #[.agg L.cells] w fun e w' => e = .returned (.bool (refG L)) ∧ Below w.heap.size w w' := by
  by_cases hR : ∃ r, r < 6 ∧ ∃ d, d < 6 ∧ okR L r d = false
  · exact goodland_R L w hR
  have hpr : ∀ r, r < 6 → ∀ d, d < 6 → okR L r d = true := fun r hr d hd => by
    cases h : okR L r d with
    | true => rfl
    | false => exact absurd ⟨r, hr, d, hd, h⟩ hR
  by_cases hB : ∃ b, b < 6 ∧ okB L b = false
  · exact goodland_B L w hpr hB
  have hpb : ∀ b, b < 6 → okB L b = true := fun b hb => by
    cases h : okB L b with
    | true => rfl
    | false => exact absurd ⟨b, hb, h⟩ hB
  have key : ∀ n, n ≤ 9 → (∀ i, i < n → okK L i = true ∧ okU L i = true) ∨ ∃ i0, i0 < 9 ∧ (∀ i, i < i0 → okK L i = true ∧ okU L i = true) ∧ (okK L i0 = false ∨ (okK L i0 = true ∧ okU L i0 = false)) := by
    intro n
    induction n with
    | zero => exact fun _ => .inl fun i h => by omega
    | succ n ih =>
      intro hn
      rcases ih (by omega) with h | h
      · cases hk : okK L n with
        | false => exact .inr ⟨n, by omega, h, .inl hk⟩
        | true =>
          cases hu : okU L n with
          | false => exact .inr ⟨n, by omega, h, .inr ⟨hk, hu⟩⟩
          | true =>
            refine .inl fun i hi => ?_
            by_cases e : i = n
            · subst e; exact ⟨hk, hu⟩
            · exact h i (by omega)
      · exact .inr h
  rcases key 9 (Nat.le_refl _) with h | ⟨i0, hi0, hlt, hk | ⟨hk, hu⟩⟩
  · exact goodland_A L w hpr hpb h
  · cases hc : (decide (L.kind i0 < 0) || decide (3 < L.kind i0) || ((L.kind i0 == 0) && L.on i0) || ((L.kind i0 == 2) && L.on i0 && (L.wh i0 != 1))) with
    | true => exact goodland_K L w hpr hpb i0 hi0 hlt hk hc
    | false => exact goodland_L L w hpr hpb i0 hi0 hlt hk hc
  · exact goodland_U L w hpr hpb i0 hi0 hlt hk hu
/-
  The document's good land is the program's: plain mathematics.
-/
theorem amg_iff (x k : Int) : amg x k = true ↔ 0 ≤ x ∧ x < k := ⟨amg_pos, fun h => amg_mk h.1 h.2⟩
theorem okR_all (L : Ld) (r : Nat) : (List.range 6).all (okR L r) = goodR L r := by
  unfold goodR groom
  congr 1
  funext d
  unfold okR
  by_cases h0 : L.exit r d = 0
  · rw [if_pos h0, h0]
    cases L.shut r d <;> rfl
  · rw [if_neg h0, Bool.eq_iff_iff, amg_iff]
    simp only [Bool.not_eq_true', Bool.or_eq_false_iff, Bool.and_eq_false_iff, decide_eq_false_iff_not]
    constructor
    · rintro ⟨⟨h1, h2⟩, h3⟩; omega
    · intro h; exact ⟨⟨by omega, by omega⟩, .inr h0⟩
theorem okB_eq (L : Ld) (b : Nat) : okB L b = goodB L b := by
  unfold goodB okB
  by_cases hn : amg (L.room b) 6 = false ∨ L.health b < 0 ∨ 10 < L.health b ∨ L.here b ≠ decide (0 < L.health b)
  · rw [gb_no hn]
    rw [Bool.eq_false_iff]
    intro h
    simp only [Bool.not_eq_true', Bool.or_eq_false_iff, Bool.and_eq_false_iff, decide_eq_false_iff_not, bne_eq_false_iff_eq] at h
    obtain ⟨⟨⟨⟨⟨⟨⟨h1, h2⟩, h3⟩, h4⟩, h5⟩, h6⟩, h7⟩, h8⟩ := h
    rcases hn with hn | hn | hn | hn
    · rw [(amg_iff _ _).2 ⟨by omega, by omega⟩] at hn; cases hn
    · exact h3 hn
    · exact h4 hn
    · apply hn
      rw [h7, Bool.eq_iff_iff]
      simp
      omega
  · have h1 : amg (L.room b) 6 = true := by
      cases hx : amg (L.room b) 6 with
      | true => rfl
      | false => exact absurd (.inl hx) hn
    have h2 : ¬ L.health b < 0 := fun e => hn (.inr (.inl e))
    have h3 : ¬ 10 < L.health b := fun e => hn (.inr (.inr (.inl e)))
    have h4 : L.here b = decide (0 < L.health b) := by
      by_cases e : L.here b = decide (0 < L.health b)
      · exact e
      · exact absurd (.inr (.inr (.inr e))) hn
    rw [gb_yes h1 h2 h3 h4]
    have hr := amg_pos h1
    have e7 : (L.here b != (L.health b != 0)) = false := by
      rw [bne_eq_false_iff_eq, h4, Bool.eq_iff_iff]
      simp; omega
    rw [decide_eq_false (show ¬ L.room b < 0 by omega), decide_eq_false (show ¬ 5 < L.room b by omega), decide_eq_false h2, decide_eq_false h3, e7]
    rw [Bool.eq_iff_iff]
    simp only [Bool.false_or, Bool.or_false, Bool.not_eq_true', Bool.or_eq_false_iff, Bool.and_eq_false_iff, decide_eq_false_iff_not, bne_eq_false_iff_eq, Bool.or_eq_true, Bool.and_eq_true, beq_iff_eq, amg_iff, Bool.not_eq_false']
    constructor
    · rintro ⟨⟨h5, h6⟩, h7 | h7⟩
      · by_cases e : L.foe b = 0
        · exact .inl e
        · exact .inr ⟨h7, by omega, by omega⟩
      · exact .inl h7
    · rintro (e | ⟨h7, h8, h9⟩)
      · exact ⟨⟨by omega, by omega⟩, .inr e⟩
      · exact ⟨⟨by omega, by omega⟩, .inl h7⟩
theorem way_self {L : Ld} {i : Nat} (hi : i < 9) (hw : L.wh i ≠ 2) : wayL L (i : Int) = [(i : Int)] := by
  rw [wayL_eq, if_pos ⟨amg_mk (by omega) (by omega), by simp⟩, if_neg (by simpa using hw)]; rfl
theorem okK_iff (L : Ld) (i : Nat) : okK L i = true ↔ gkind (L.kind i) (L.wh i) (L.on i) = true ∧ (L.wh i = 2 → (0 ≤ L.loc i ∧ L.loc i < 9) ∧ L.kind (L.loc i).toNat = 3) := by
  unfold okK gkind
  simp only [Bool.not_eq_true', Bool.or_eq_false_iff, Bool.and_eq_false_iff, decide_eq_false_iff_not, bne_eq_false_iff_eq, beq_eq_false_iff_ne, ne_eq]
  constructor
  · rintro ⟨⟨⟨⟨h1, h2⟩, h3⟩, h4⟩, h5⟩
    refine ⟨?_, fun hw => ?_⟩
    · by_cases k0 : L.kind i = 0
      · rw [if_pos k0]
        rcases h3 with h3 | h3
        · exact absurd k0 h3
        · rw [h3]; rfl
      · rw [if_neg k0]
        by_cases k2 : L.kind i = 2
        · rw [if_pos k2]
          rcases h4 with (h4 | h4) | h4
          · exact absurd k2 h4
          · rw [h4]; rfl
          · rw [h4]; simp
        · rw [if_neg k2]
          rcases (show L.kind i = 1 ∨ L.kind i = 3 by omega) with e | e <;> rw [e] <;> rfl
    · rcases h5 with h5 | ⟨⟨h5, h6⟩, h7⟩
      · exact absurd hw h5
      · exact ⟨⟨by omega, by omega⟩, h7⟩
  · rintro ⟨h1, h2⟩
    by_cases k0 : L.kind i = 0
    · rw [if_pos k0] at h1
      have ho : L.on i = false := by simpa using h1
      refine ⟨⟨⟨⟨by omega, by omega⟩, .inr ho⟩, .inl (.inl (by omega))⟩, ?_⟩
      by_cases hw : L.wh i = 2
      · have := h2 hw; exact .inr ⟨⟨by omega, by omega⟩, this.2⟩
      · exact .inl hw
    · rw [if_neg k0] at h1
      by_cases k2 : L.kind i = 2
      · rw [if_pos k2] at h1
        refine ⟨⟨⟨⟨by omega, by omega⟩, .inl k0⟩, ?_⟩, ?_⟩
        · cases ho : L.on i with
          | false => exact .inl (.inr rfl)
          | true => rw [ho] at h1; exact .inr (by simpa using h1)
        · by_cases hw : L.wh i = 2
          · have := h2 hw; exact .inr ⟨⟨by omega, by omega⟩, this.2⟩
          · exact .inl hw
      · rw [if_neg k2] at h1
        have hk : L.kind i = 1 ∨ L.kind i = 3 := by simpa using h1
        refine ⟨⟨⟨⟨by omega, by omega⟩, .inl k0⟩, .inl (.inl k2)⟩, ?_⟩
        by_cases hw : L.wh i = 2
        · have := h2 hw; exact .inr ⟨⟨by omega, by omega⟩, this.2⟩
        · exact .inl hw
/-- What okU asks of the last one. -/
theorem okU_iff (L : Ld) (i : Nat) : okU L i = true ↔ (wayL L (i : Int) ≠ [] ∧ L.wh (lastW L (i : Int)) ≠ 2) ∧ ((L.wh (lastW L (i : Int)) = 0 ∧ 0 ≤ L.loc (lastW L (i : Int)) ∧ L.loc (lastW L (i : Int)) < 6) ∨ (L.wh (lastW L (i : Int)) = 1 ∧ (0 ≤ L.loc (lastW L (i : Int)) ∧ L.loc (lastW L (i : Int)) < 6) ∧ L.here (L.loc (lastW L (i : Int))).toNat = true)) := by
  unfold okU rootL
  by_cases h : wayL L (i : Int) ≠ [] ∧ L.wh (lastW L (i : Int)) ≠ 2
  · rw [if_pos h]
    simp only
    generalize L.wh (lastW L (i : Int)) = a at *
    generalize L.loc (lastW L (i : Int)) = c at *
    by_cases h0 : a = 0
    · subst h0
      simp [h.1]
      omega
    · by_cases h1 : a = 1
      · subst h1
        simp [h.1]
        intro _ _
        omega
      · simp [h0, h1]
  · rw [if_neg h]
    simp only [Bool.not_false, Bool.true_or, Bool.not_true]
    constructor
    · intro e; cases e
    · rintro ⟨e, _⟩; exact absurd e h
theorem things_iff (L : Ld) : (∀ i, i < 9 → okK L i = true ∧ okU L i = true) ↔ ∀ i, i < 9 → goodT L i = true := by
  constructor
  · intro h i hi
    obtain ⟨hk, hu⟩ := h i hi
    obtain ⟨k1, k2⟩ := (okK_iff L i).1 hk
    obtain ⟨⟨u1, u2⟩, u3⟩ := (okU_iff L i).1 hu
    unfold goodT
    rw [k1]
    have hgp : gplace L (L.wh i) (L.loc i) = true := by
      unfold gplace
      by_cases hw : L.wh i = 2
      · have := k2 hw
        rw [if_neg (by omega), if_neg (by omega), (amg_iff _ _).2 this.1]
        simp [hw, this.2]
      · have el : lastW L (i : Int) = i := by unfold lastW; rw [way_self hi hw]; simp
        rw [el] at u3
        rcases u3 with ⟨e0, e1⟩ | ⟨e0, e1, e2⟩
        · rw [if_pos e0]; exact (amg_iff _ _).2 e1
        · rw [if_neg (by omega), if_pos e0, (amg_iff _ _).2 e1, e2]; rfl
    rw [hgp]
    simpa using u2
  · intro h
    -- a land whose things are good
    intro i hi
    have hT := h i hi
    have hT2 := hT
    unfold goodT at hT2
    simp only [Bool.and_eq_true] at hT2
    refine ⟨(okK_iff L i).2 ⟨hT2.1.1, fun hw => ?_⟩, ?_⟩
    · have hp := hT2.1.2
      unfold gplace at hp
      rw [if_neg (by omega), if_neg (by omega)] at hp
      simp only [Bool.and_eq_true] at hp
      exact ⟨amg_pos hp.1.2, by simpa using hp.2⟩
    · have hl : L.wh (lastW L (i : Int)) ≠ 2 := by simpa using hT2.2
      have hp : Path L (i : Int) (wayL L (i : Int)) := path_way L (amg_mk (by omega) (by omega)) hl
      obtain ⟨r, e⟩ := hp.head
      have hn := (path_nodup L _ _ hp).2
      have hlt : (wayL L (i : Int)).length - 1 < (wayL L (i : Int)).length := by rw [e]; simp
      have hm : (wayL L (i : Int)).getD ((wayL L (i : Int)).length - 1) 0 ∈ wayL L (i : Int) := getD_mem hlt
      have hj := hn _ hm
      have h9 : lastW L (i : Int) < 9 := by unfold lastW; omega
      have hJ := h _ h9
      unfold goodT at hJ
      simp only [Bool.and_eq_true] at hJ
      have hgp := hJ.1.2
      refine (okU_iff L i).2 ⟨⟨by rw [e]; simp, hl⟩, ?_⟩
      unfold gplace at hgp
      by_cases e0 : L.wh (lastW L (i : Int)) = 0
      · rw [if_pos e0] at hgp; exact .inl ⟨e0, amg_pos hgp⟩
      · rw [if_neg e0] at hgp
        by_cases e1 : L.wh (lastW L (i : Int)) = 1
        · rw [if_pos e1] at hgp
          simp only [Bool.and_eq_true] at hgp
          exact .inr ⟨e1, amg_pos hgp.1, hgp.2⟩
        · rw [if_neg e1] at hgp
          simp only [Bool.and_eq_true, beq_iff_eq] at hgp
          exact absurd hgp.1.1 hl
theorem refG_eq (L : Ld) : refG L = goodL L := by
  unfold refG goodL
  have e1 : (fun r => (List.range 6).all (okR L r)) = goodR L := funext fun r => okR_all L r
  have e2 : okB L = goodB L := funext fun b => okB_eq L b
  have e3 : (List.range 9).all (fun i => okK L i && okU L i) = (List.range 9).all (goodT L) := by
    rw [Bool.eq_iff_iff]
    simp only [List.all_eq_true, List.mem_range, Bool.and_eq_true]
    exact things_iff L
  rw [e1, e2, e3]
end Go.Proofs.YtaifjndkgfffpaaGreatDoor
