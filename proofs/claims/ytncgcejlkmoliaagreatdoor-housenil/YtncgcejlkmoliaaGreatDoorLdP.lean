/-
  Plain mathematics of things in boxes in boxes: where a chain of boxes ends; that a chain which does not end within nine steps never does; what is inside of what. Nothing of the program.
-/
import Derived.WalkKit
namespace Go.Proofs.YtncgcejlkmoliaaGreatDoor
set_option linter.unusedVariables false

/-- A list without repeats of numbers from 0 to n-1 has at most n members. -/
theorem pigeon (n : Nat) : ∀ (S : List Int), S.Nodup → (∀ s ∈ S, 0 ≤ s ∧ s < n) → S.length ≤ n := by
  induction n with
  | zero =>
    intro S _ h
    cases S with
    | nil => simp
    | cons a S => have := h a (List.mem_cons_self ..); omega
  | succ n ih =>
    intro S hn h
    by_cases hm : (n : Int) ∈ S
    · have h1 := ih (S.erase n) (hn.erase _) (fun s hs => by
        have hs' := (hn.mem_erase_iff).1 hs
        have := h s hs'.2
        omega)
      have h2 := List.length_erase_of_mem hm
      omega
    · have := ih S hn (fun s hs => by
        have h1 := h s hs
        have : s ≠ n := fun e => hm (e ▸ hs)
        omega)
      omega

section
variable (wh at' : Int → Int) (on : Int → Bool)

/-- From thing i, box after box: the last thing that is in no box, and whether all boxes on the way are open; none: the way leads out of what there is, or is not at its end in n steps. -/
def chase : Nat → Int → Bool → Option (Int × Bool)
  | 0, _, _ => none
  | n + 1, i, o => if 0 ≤ i ∧ i < 9 then (if wh i = 2 then chase n (at' i) (o && on (at' i)) else some (i, o)) else none

/-- What was seen on the way to i. -/
structure Way (S : List Int) (i : Int) : Prop where
  nodup : S.Nodup
  inn : ∀ s ∈ S, 0 ≤ s ∧ s < 9
  next : ∀ s ∈ S, wh s = 2 ∧ (at' s ∈ S ∨ at' s = i)

variable {wh at' on}

theorem way_nil (i : Int) : Way wh at' [] i := ⟨List.nodup_nil, fun s h => by simp at h, fun s h => by simp at h⟩

theorem Way.cons {S : List Int} {i : Int} (h : Way wh at' S i) (hi : 0 ≤ i ∧ i < 9) (hn : i ∉ S) (hw : wh i = 2) : Way wh at' (i :: S) (at' i) := by
  refine ⟨List.nodup_cons.2 ⟨hn, h.nodup⟩, fun s hs => ?_, fun s hs => ?_⟩
  · rcases List.mem_cons.1 hs with rfl | hs
    · exact hi
    · exact h.inn s hs
  · rcases List.mem_cons.1 hs with rfl | hs
    · exact ⟨hw, .inr rfl⟩
    · obtain ⟨h1, h2⟩ := h.next s hs
      refine ⟨h1, .inl ?_⟩
      rcases h2 with h2 | h2
      · exact List.mem_cons_of_mem _ h2
      · rw [h2]; exact List.mem_cons_self ..

theorem Way.len {S : List Int} {i : Int} (h : Way wh at' S i) (hi : 0 ≤ i ∧ i < 9) (hn : i ∉ S) : S.length < 9 := by
  have := pigeon 9 (i :: S) (List.nodup_cons.2 ⟨hn, h.nodup⟩) (fun s hs => by
    rcases List.mem_cons.1 hs with rfl | hs
    · exact hi
    · exact h.inn s hs)
  simp only [List.length_cons] at this
  omega

/-- Once round, it goes round for ever. -/
theorem Way.round {S : List Int} {i : Int} (h : Way wh at' S i) (hm : i ∈ S) : ∀ (n : Nat) (j : Int) (o : Bool), j ∈ S → chase wh at' on n j o = none := by
  intro n
  induction n with
  | zero => intros; rfl
  | succ n ih =>
    intro j o hj
    obtain ⟨h1, h2⟩ := h.next j hj
    simp only [chase]
    rw [if_pos (h.inn j hj), if_pos h1]
    refine ih _ _ ?_
    rcases h2 with h2 | h2
    · exact h2
    · rw [h2]; exact hm

/-- Nine steps are as good as more. -/
theorem chase_more (k : Nat) : ∀ (S : List Int) (i : Int) (o : Bool), Way wh at' S i → 9 - S.length = k → ∀ n, k ≤ n → chase wh at' on n i o = chase wh at' on k i o := by
  induction k with
  | zero =>
    intro S i o h hk n hn
    by_cases hi : 0 ≤ i ∧ i < 9
    · by_cases hm : i ∈ S
      · rw [h.round hm n i o hm, h.round hm 0 i o hm]
      · have := h.len hi hm; omega
    · cases n with
      | zero => rfl
      | succ n => simp only [chase]; rw [if_neg hi]
  | succ k ih =>
    intro S i o h hk n hn
    obtain ⟨m, rfl⟩ : ∃ m, n = m + 1 := ⟨n - 1, by omega⟩
    simp only [chase]
    by_cases hi : 0 ≤ i ∧ i < 9
    · rw [if_pos hi, if_pos hi]
      by_cases hw : wh i = 2
      · rw [if_pos hw, if_pos hw]
        by_cases hm : i ∈ S
        · have h2 := h.next i hm
          have hj : at' i ∈ S := by
            rcases h2.2 with h2 | h2
            · exact h2
            · rw [h2]; exact hm
          rw [h.round hm m _ _ hj, h.round hm k _ _ hj]
        · exact ih (i :: S) (at' i) _ (h.cons hi hm hw) (by simp only [List.length_cons]; omega) m (by omega)
      · rw [if_neg hw, if_neg hw]
    · rw [if_neg hi, if_neg hi]

theorem chase_stable (i : Int) (o : Bool) (n : Nat) (hn : 9 ≤ n) : chase wh at' on n i o = chase wh at' on 9 i o :=
  chase_more 9 [] i o (way_nil i) rfl n hn

/-- One step on: as many steps are left as things not yet seen. -/
theorem chase_step {S : List Int} {i : Int} (o : Bool) (h : Way wh at' S i) (hi : 0 ≤ i ∧ i < 9) (hn : i ∉ S) (hw : wh i = 2) :
    chase wh at' on (9 - S.length) i o = chase wh at' on (9 - (i :: S).length) (at' i) (o && on (at' i)) := by
  have := h.len hi hn
  obtain ⟨m, hm⟩ : ∃ m, 9 - S.length = m + 1 := ⟨9 - S.length - 1, by omega⟩
  rw [hm]
  simp only [chase]
  rw [if_pos hi, if_pos hw]
  simp only [List.length_cons]
  rw [show 9 - (S.length + 1) = m by omega]

theorem chase_end {S : List Int} {i : Int} (o : Bool) (h : Way wh at' S i) (hi : 0 ≤ i ∧ i < 9) (hn : i ∉ S) (hw : wh i ≠ 2) : chase wh at' on (9 - S.length) i o = some (i, o) := by
  have := h.len hi hn
  obtain ⟨m, hm⟩ : ∃ m, 9 - S.length = m + 1 := ⟨9 - S.length - 1, by omega⟩
  rw [hm]
  simp only [chase]
  rw [if_pos hi, if_neg hw]

theorem chase_out {i : Int} (o : Bool) (n : Nat) (hi : ¬ (0 ≤ i ∧ i < 9)) : chase wh at' on n i o = none := by
  cases n with
  | zero => rfl
  | succ n => simp only [chase]; rw [if_neg hi]

variable (wh at')

/-- Is thing i that box, or in it, or in what is in it? -/
def ins : Nat → Int → Int → Bool
  | 0, _, _ => false
  | n + 1, i, b => if i = b then true else if 0 ≤ i ∧ i < 9 ∧ wh i = 2 then ins n (at' i) b else false

variable {wh at'}

theorem Way.never {S : List Int} {i : Int} (h : Way wh at' S i) (hm : i ∈ S) (b : Int) (hb : b ∉ S) : ∀ (n : Nat) (j : Int), j ∈ S → ins wh at' n j b = false := by
  intro n
  induction n with
  | zero => intros; rfl
  | succ n ih =>
    intro j hj
    obtain ⟨h1, h2⟩ := h.next j hj
    have hjb : j ≠ b := fun e => hb (e ▸ hj)
    have hin := h.inn j hj
    simp only [ins]
    rw [if_neg hjb, if_pos ⟨hin.1, hin.2, h1⟩]
    refine ih _ ?_
    rcases h2 with h2 | h2
    · exact h2
    · rw [h2]; exact hm

/-- Ten steps are as good as more (nine things, and what is none). -/
theorem ins_more (b : Int) (k : Nat) : ∀ (S : List Int) (i : Int), Way wh at' S i → b ∉ S → 10 - S.length = k → ∀ n, k ≤ n → ins wh at' n i b = ins wh at' k i b := by
  induction k with
  | zero =>
    intro S i h hb hk n hn
    have := pigeon 9 S h.nodup h.inn
    omega
  | succ k ih =>
    intro S i h hb hk n hn
    obtain ⟨m, rfl⟩ : ∃ m, n = m + 1 := ⟨n - 1, by omega⟩
    simp only [ins]
    by_cases hib : i = b
    · rw [if_pos hib, if_pos hib]
    · rw [if_neg hib, if_neg hib]
      by_cases hc : 0 ≤ i ∧ i < 9 ∧ wh i = 2
      · rw [if_pos hc, if_pos hc]
        by_cases hm : i ∈ S
        · have h2 := h.next i hm
          have hj : at' i ∈ S := by
            rcases h2.2 with h2 | h2
            · exact h2
            · rw [h2]; exact hm
          rw [h.never hm b hb m _ hj, h.never hm b hb k _ hj]
        · exact ih (i :: S) (at' i) (h.cons ⟨hc.1, hc.2.1⟩ hm hc.2.2) (by simp only [List.mem_cons, not_or]; exact ⟨fun e => hib e.symm, hb⟩) (by simp only [List.length_cons]; omega) m (by omega)
      · rw [if_neg hc, if_neg hc]

theorem ins_stable (i b : Int) (n : Nat) (hn : 10 ≤ n) : ins wh at' n i b = ins wh at' 10 i b :=
  ins_more b 10 [] i (way_nil i) (by simp) rfl n hn

/-- What is inside of another thing comes to the same end. -/
theorem ins_chase {b : Int} : ∀ (n : Nat) (i : Int) (o : Bool) (r : Int × Bool), ins wh at' n i b = true → ∀ m, chase wh at' on m i o = some r → ∃ k o', k ≤ m ∧ chase wh at' on k b o' = some r := by
  intro n
  induction n with
  | zero => intro i o r h; simp [ins] at h
  | succ n ih =>
    intro i o r h m hm
    simp only [ins] at h
    by_cases hib : i = b
    · subst hib; exact ⟨m, o, Nat.le_refl _, hm⟩
    · rw [if_neg hib] at h
      by_cases hc : 0 ≤ i ∧ i < 9 ∧ wh i = 2
      · rw [if_pos hc] at h
        cases m with
        | zero => simp [chase] at hm
        | succ m =>
          simp only [chase] at hm
          rw [if_pos ⟨hc.1, hc.2.1⟩, if_pos hc.2.2] at hm
          obtain ⟨k, o', hk, e⟩ := ih _ _ _ h m hm
          exact ⟨k, o', by omega, e⟩
      · rw [if_neg hc] at h; simp at h

/-- The last thing does not hang on what was open before. -/
theorem chase_open : ∀ (n : Nat) (i : Int) (o o' : Bool) (r : Int × Bool), chase wh at' on n i o = some r → ∃ q, chase wh at' on n i o' = some (r.1, q) := by
  intro n
  induction n with
  | zero => intro i o o' r h; simp [chase] at h
  | succ n ih =>
    intro i o o' r h
    simp only [chase] at h ⊢
    by_cases hi : 0 ≤ i ∧ i < 9
    · rw [if_pos hi] at h ⊢
      by_cases hw : wh i = 2
      · rw [if_pos hw] at h ⊢
        exact ih _ _ _ _ h
      · rw [if_neg hw] at h ⊢
        injection h with h
        subst h
        exact ⟨_, rfl⟩
    · rw [if_neg hi] at h; simp at h

/-- How many steps it takes to the end; one less from the next. -/
theorem chase_min : ∀ (n : Nat) (i : Int) (o : Bool) (r : Int × Bool), chase wh at' on n i o = some r → ∃ k, k ≤ n ∧ chase wh at' on (k + 1) i o = some r ∧ ∀ o', chase wh at' on k i o' = none := by
  intro n
  induction n with
  | zero => intro i o r h; simp [chase] at h
  | succ n ih =>
    intro i o r h
    simp only [chase] at h
    by_cases hi : 0 ≤ i ∧ i < 9
    · rw [if_pos hi] at h
      by_cases hw : wh i = 2
      · rw [if_pos hw] at h
        obtain ⟨k, hk, e, hno⟩ := ih _ _ _ h
        refine ⟨k + 1, by omega, ?_, fun o' => ?_⟩
        · simp only [chase] at e ⊢; rw [if_pos hi, if_pos hw]; exact e
        · simp only [chase]; rw [if_pos hi, if_pos hw]; exact hno _
      · rw [if_neg hw] at h
        exact ⟨0, by omega, by simp only [chase]; rw [if_pos hi, if_neg hw]; exact h, fun _ => rfl⟩
    · rw [if_neg hi] at h; simp at h

theorem chase_mono : ∀ (n : Nat) (i : Int) (o : Bool) (r : Int × Bool), chase wh at' on n i o = some r → ∀ m, n ≤ m → chase wh at' on m i o = some r := by
  intro n
  induction n with
  | zero => intro i o r h; simp [chase] at h
  | succ n ih =>
    intro i o r h m hm
    obtain ⟨l, rfl⟩ : ∃ l, m = l + 1 := ⟨m - 1, by omega⟩
    simp only [chase] at h ⊢
    by_cases hi : 0 ≤ i ∧ i < 9
    · rw [if_pos hi] at h ⊢
      by_cases hw : wh i = 2
      · rw [if_pos hw] at h ⊢
        exact ih _ _ _ h l (by omega)
      · rw [if_neg hw] at h ⊢
        exact h
    · rw [if_neg hi] at h; simp at h

/-- It is k steps to the end. -/
def Depth (wh at' : Int → Int) (on : Int → Bool) (i : Int) (k : Nat) : Prop := (∃ o r, chase wh at' on (k + 1) i o = some r) ∧ ∀ o', chase wh at' on k i o' = none

theorem depth_uniq {i : Int} {k l : Nat} (hk : Depth wh at' on i k) (hl : Depth wh at' on i l) : k = l := by
  obtain ⟨⟨o, r, e⟩, hn⟩ := hk
  obtain ⟨⟨o', r', e'⟩, hn'⟩ := hl
  rcases Nat.lt_trichotomy k l with h | h | h
  · have := chase_mono _ _ _ _ e l (by omega)
    rw [hn' o] at this; simp at this
  · exact h
  · have := chase_mono _ _ _ _ e' k (by omega)
    rw [hn o'] at this; simp at this

/-- What is inside of a thing is further from the end. -/
theorem ins_depth {b : Int} : ∀ (n : Nat) (i : Int) (k : Nat), ins wh at' n i b = true → Depth wh at' on i k → ∃ l, Depth wh at' on b l ∧ (i = b ∨ l < k) := by
  intro n
  induction n with
  | zero => intro i k h; simp [ins] at h
  | succ n ih =>
    intro i k h hd
    simp only [ins] at h
    by_cases hib : i = b
    · subst hib; exact ⟨k, hd, .inl rfl⟩
    · rw [if_neg hib] at h
      by_cases hc : 0 ≤ i ∧ i < 9 ∧ wh i = 2
      · rw [if_pos hc] at h
        obtain ⟨⟨o, r, e⟩, hn⟩ := hd
        simp only [chase] at e
        rw [if_pos ⟨hc.1, hc.2.1⟩, if_pos hc.2.2] at e
        cases k with
        | zero => simp [chase] at e
        | succ k =>
          have hd' : Depth wh at' on (at' i) k := ⟨⟨_, r, e⟩, fun o' => by
            cases hx : chase wh at' on k (at' i) o' with
            | none => rfl
            | some q =>
              exfalso
              obtain ⟨q', e'⟩ := chase_open k (at' i) o' (o && on (at' i)) q hx
              have := hn o
              simp only [chase] at this
              rw [if_pos ⟨hc.1, hc.2.1⟩, if_pos hc.2.2, e'] at this
              simp at this⟩
          obtain ⟨l, h1, h2⟩ := ih _ _ h hd'
          refine ⟨l, h1, .inr ?_⟩
          rcases h2 with h2 | h2
          · rw [h2] at hd'
            have := depth_uniq h1 hd'
            omega
          · omega
      · rw [if_neg hc] at h; simp at h

/-- No two things are in one another. -/
theorem ins_anti {i j : Int} {n m k : Nat} (hd : Depth wh at' on i k) (h1 : ins wh at' n i j = true) (h2 : ins wh at' m j i = true) : i = j := by
  obtain ⟨l, hl, h⟩ := ins_depth n i k h1 hd
  rcases h with h | h
  · exact h
  · obtain ⟨l', hl', h'⟩ := ins_depth m j l h2 hl
    rcases h' with h' | h'
    · exact h'.symm
    · have := depth_uniq hd hl'
      omega

theorem depth_of {n : Nat} {i : Int} {o : Bool} {r : Int × Bool} (h : chase wh at' on n i o = some r) : ∃ k, Depth wh at' on i k := by
  obtain ⟨k, _, e, hn⟩ := chase_min n i o r h
  exact ⟨k, ⟨o, r, e⟩, hn⟩
end
end Go.Proofs.YtncgcejlkmoliaaGreatDoor
