/-
  Plain mathematics of a good land: each thing is in a room, no two are in one another, what is in a thing is in its room. And: stands.
-/
import Derived.Test.YtaifjndkgfffpaaDoorMgAU
import Derived.Test.YtaifjndkgfffpaaDoorMgAE
import Derived.Test.YtaifjndkgfffpaaDoorMgAV
import Derived.Test.YtaifjndkgfffpaaDoorRuP
namespace Go.Proofs.YtaifjndkgfffpaaDoor
open Go.RowKit
set_option linter.unusedVariables false

/-- A way that comes to an end: what is on it, and where it begins. -/
def PathR (L : Ld) : List Int → Int → Prop
  | [], _ => False
  | x :: r, i => x = i ∧ amg i 9 = true ∧ ((L.wh i.toNat ≠ 2 ∧ r = []) ∨ (L.wh i.toNat = 2 ∧ PathR L r (L.loc i.toNat)))
def Path (L : Ld) (i : Int) (q : List Int) : Prop := PathR L q i

theorem Path.stop {L : Ld} (i : Int) (ha : amg i 9 = true) (hw : L.wh i.toNat ≠ 2) : Path L i [i] := ⟨rfl, ha, .inl ⟨hw, rfl⟩⟩
theorem Path.step {L : Ld} (i : Int) (q : List Int) (ha : amg i 9 = true) (hw : L.wh i.toNat = 2) (h : Path L (L.loc i.toNat) q) : Path L i (i :: q) := ⟨rfl, ha, .inr ⟨hw, h⟩⟩

theorem path_uniq {L : Ld} : ∀ (q : List Int) (i : Int), PathR L q i → ∀ q', PathR L q' i → q = q' := by
  intro q
  induction q with
  | nil => intro i h; exact h.elim
  | cons x r ih =>
    intro i h q' h'
    cases q' with
    | nil => exact h'.elim
    | cons y s =>
      obtain ⟨rfl, _, h⟩ := h
      obtain ⟨rfl, _, h'⟩ := h'
      rcases h with ⟨hw, rfl⟩ | ⟨hw, h⟩
      · rcases h' with ⟨_, rfl⟩ | ⟨hw', _⟩
        · rfl
        · exact absurd hw' hw
      · rcases h' with ⟨hw', _⟩ | ⟨_, h'⟩
        · exact absurd hw hw'
        · rw [ih _ h _ h']

theorem Path.uniq {L : Ld} {i : Int} {q : List Int} (h : Path L i q) : ∀ q', Path L i q' → q = q' := path_uniq q i h

theorem Path.head {L : Ld} {i : Int} {q : List Int} (h : Path L i q) : ∃ r, q = i :: r := by
  cases q with
  | nil => exact h.elim
  | cons x r =>
    obtain ⟨rfl, _⟩ := h
    exact ⟨_, rfl⟩

theorem path_part {L : Ld} : ∀ (q : List Int) (i : Int), PathR L q i → ∀ j, j ∈ q → ∃ p q', q = p ++ q' ∧ Path L j q' := by
  intro q
  induction q with
  | nil => intro i h; exact h.elim
  | cons x r ih =>
    intro i h j hj
    have h0 := h
    obtain ⟨rfl, _, h⟩ := h
    rcases List.mem_cons.1 hj with rfl | hj
    · exact ⟨[], _, rfl, h0⟩
    · rcases h with ⟨_, rfl⟩ | ⟨_, h⟩
      · simp at hj
      · obtain ⟨p, q', e, hp⟩ := ih _ h j hj
        exact ⟨x :: p, q', by rw [e]; rfl, hp⟩

theorem Path.part {L : Ld} {i : Int} {q : List Int} (h : Path L i q) : ∀ j, j ∈ q → ∃ p q', q = p ++ q' ∧ Path L j q' := path_part q i h

theorem last_app {S : List Int} {x : Int} : (S ++ [x]).getD ((S ++ [x]).length - 1) 0 = x := by simp

theorem path_from (L : Ld) : ∀ (n : Nat) (S : List Int) (i : Int), WIn S → n + S.length = 10 → (∀ s ∈ S, L.wh s.toNat = 2) → S ≠ [] →
    L.wh ((wayFrom L n S i).getD ((wayFrom L n S i).length - 1) 0).toNat ≠ 2 → ∃ t, wayFrom L n S i = S ++ t ∧ Path L i t := by
  intro n
  induction n with
  | zero =>
    intro S i h hn
    have := pigeon 9 S h.nodup h.inn
    omega
  | succ n ih =>
    intro S i h hn h2 hne hl
    simp only [wayFrom] at hl ⊢
    by_cases hc : amg i 9 = true ∧ i ∉ S
    · rw [if_pos hc] at hl ⊢
      have hs := (h.snoc hc.1 hc.2).1
      by_cases hw : L.wh i.toNat = 2
      · rw [if_pos hw] at hl ⊢
        obtain ⟨t, e, hp⟩ := ih (S ++ [i]) (L.loc i.toNat) hs (by simp; omega) (by
          intro s hs
          rcases List.mem_append.1 hs with hs | hs
          · exact h2 s hs
          · rw [List.mem_singleton.1 hs]; exact hw) (by simp) hl
        exact ⟨i :: t, by rw [e]; simp, Path.step i t hc.1 hw hp⟩
      · rw [if_neg hw]
        exact ⟨[i], rfl, Path.stop i hc.1 hw⟩
    · rw [if_neg hc] at hl
      have hp : 0 < S.length := List.length_pos_iff.2 hne
      exact absurd (h2 _ (getD_mem (q := S) (k := S.length - 1) (by omega))) hl

theorem wayL_eq (L : Ld) (i : Int) : wayL L i = if amg i 9 = true ∧ i ∉ ([] : List Int) then (if L.wh i.toNat = 2 then wayFrom L 9 ([] ++ [i]) (L.loc i.toNat) else [] ++ [i]) else [] := rfl

theorem path_way (L : Ld) {i : Int} (hi : amg i 9 = true) (hl : L.wh (lastW L i) ≠ 2) : Path L i (wayL L i) := by
  unfold lastW at hl
  rw [wayL_eq] at hl ⊢
  have h0 : WIn [] := ⟨List.nodup_nil, fun s h => by simp at h⟩
  have hs := (h0.snoc hi (by simp)).1
  rw [if_pos ⟨hi, by simp⟩] at hl ⊢
  by_cases hw : L.wh i.toNat = 2
  · rw [if_pos hw] at hl ⊢
    obtain ⟨t, e, hp⟩ := path_from L 9 ([] ++ [i]) (L.loc i.toNat) hs rfl (by
      intro s hs
      simp at hs
      rw [hs]; exact hw) (by simp) hl
    rw [e]
    exact Path.step i t hi hw hp
  · rw [if_neg hw]
    exact Path.stop i hi hw

theorem good_T {L : Ld} (hg : goodL L = true) (i : Nat) (hi : i < 9) : goodT L i = true := by
  unfold goodL at hg
  simp only [Bool.and_eq_true] at hg
  exact List.all_eq_true.1 hg.2 i (by simp [hi])
theorem good_B {L : Ld} (hg : goodL L = true) (b : Nat) (hb : b < 6) : goodB L b = true := by
  unfold goodL at hg
  simp only [Bool.and_eq_true] at hg
  exact List.all_eq_true.1 hg.1.2 b (by simp [hb])
theorem good_way {L : Ld} (hg : goodL L = true) {i : Int} (hi : amg i 9 = true) : Path L i (wayL L i) := by
  have h9 := amg_pos hi
  have := good_T hg i.toNat (by omega)
  unfold goodT at this
  rw [show ((i.toNat : Nat) : Int) = i by omega] at this
  refine path_way L hi ?_
  simp only [Bool.and_eq_true, Bool.not_eq_true', beq_eq_false_iff_ne] at this
  exact this.2
theorem good_self {L : Ld} (hg : goodL L = true) {i : Int} (hi : amg i 9 = true) : i ∈ wayL L i := by
  obtain ⟨r, e⟩ := (good_way hg hi).head
  rw [e]; exact List.mem_cons_self ..
theorem good_in {L : Ld} (hg : goodL L = true) {i j : Int} (hi : amg i 9 = true) (hj : amg j 9 = true) (h : j ∈ wayL L i) : ∃ p, wayL L i = p ++ wayL L j := by
  obtain ⟨p, q', e, hp⟩ := (good_way hg hi).part j h
  rw [(good_way hg hj).uniq q' hp]
  exact ⟨p, e⟩
theorem good_anti {L : Ld} (hg : goodL L = true) {i j : Int} (hi : amg i 9 = true) (hj : amg j 9 = true) (h : j ∈ wayL L i) (h' : i ∈ wayL L j) : i = j := by
  obtain ⟨p, e⟩ := good_in hg hi hj h
  obtain ⟨p', e'⟩ := good_in hg hj hi h'
  have l1 := congrArg List.length e
  have l2 := congrArg List.length e'
  simp only [List.length_append] at l1 l2
  have hp : p = [] := List.eq_nil_of_length_eq_zero (by omega)
  subst hp
  obtain ⟨r, e1⟩ := (good_way hg hi).head
  obtain ⟨r', e2⟩ := (good_way hg hj).head
  rw [e1, e2] at e
  simp at e
  exact e.1
theorem good_last {L : Ld} (hg : goodL L = true) {i j : Int} (hi : amg i 9 = true) (hj : amg j 9 = true) (h : j ∈ wayL L i) : lastW L i = lastW L j := by
  obtain ⟨p, e⟩ := good_in hg hi hj h
  have hn : 0 < (wayL L j).length := List.length_pos_iff.2 (way_pos L hj)
  unfold lastW
  rw [e]
  congr 1
  simp only [List.length_append, List.getD_eq_getElem?_getD]
  rw [List.getElem?_append_right (by omega)]
  congr 2
  omega
theorem good_same {L : Ld} (hg : goodL L = true) {i j : Int} (hi : amg i 9 = true) (hj : amg j 9 = true) (h : j ∈ wayL L i) : (roomL L i).1 = (roomL L j).1 := by
  unfold roomL
  rw [if_neg (way_pos L hi), if_neg (way_pos L hj), good_last hg hi hj h]
  by_cases h0 : L.wh (lastW L j) = 0
  · rw [if_pos h0, if_pos h0]
  · rw [if_neg h0, if_neg h0]
    by_cases h1 : L.wh (lastW L j) = 1 ∧ amg (L.loc (lastW L j)) 6 = true
    · rw [if_pos h1, if_pos h1]
    · rw [if_neg h1, if_neg h1]
theorem good_room {L : Ld} (hg : goodL L = true) {i : Int} (hi : amg i 9 = true) : 0 ≤ (roomL L i).1 ∧ (roomL L i).1 < 6 := by
  have hlt := (last_lt L (way_pos L hi)).1
  have ht := good_T hg (lastW L i) hlt
  have hi9 := amg_pos hi
  have h2 : L.wh (lastW L i) ≠ 2 := by
    have := good_T hg i.toNat (by omega)
    unfold goodT at this
    rw [show ((i.toNat : Nat) : Int) = i by omega] at this
    simp only [Bool.and_eq_true, Bool.not_eq_true', beq_eq_false_iff_ne] at this
    exact this.2
  unfold goodT gplace at ht
  simp only [Bool.and_eq_true] at ht
  have hp := ht.1.2
  unfold roomL
  rw [if_neg (way_pos L hi)]
  by_cases h0 : L.wh (lastW L i) = 0
  · rw [if_pos h0] at hp ⊢
    exact amg_pos hp
  · rw [if_neg h0] at hp ⊢
    by_cases h1 : L.wh (lastW L i) = 1
    · rw [if_pos h1] at hp
      simp only [Bool.and_eq_true] at hp
      rw [if_pos ⟨h1, hp.1⟩]
      have hl := amg_pos hp.1
      have hb := good_B hg (L.loc (lastW L i)).toNat (by omega)
      unfold goodB gbeing at hb
      by_cases hc : amg (L.room (L.loc (lastW L i)).toNat) 6 = false ∨ L.health (L.loc (lastW L i)).toNat < 0 ∨ 10 < L.health (L.loc (lastW L i)).toNat ∨ L.here (L.loc (lastW L i)).toNat ≠ decide (0 < L.health (L.loc (lastW L i)).toNat)
      · rw [if_pos hc] at hb; simp at hb
      · have : amg (L.room (L.loc (lastW L i)).toNat) 6 = true := by
          cases hx : amg (L.room (L.loc (lastW L i)).toNat) 6 with
          | true => rfl
          | false => exact absurd (.inl hx) hc
        exact amg_pos this
    · rw [if_neg h1] at hp
      have : (L.wh (lastW L i) == 2) = false := by simp [h2]
      rw [this] at hp
      simp at hp

theorem wf_nl : Wf nl := by
  refine ⟨fun r d hr hd => ?_, fun b hb => ?_⟩
  · have hr' : r ∈ List.range 6 := by simp [hr]
    have hd' : d ∈ List.range 6 := by simp [hd]
    have : ∀ r ∈ List.range 6, ∀ d ∈ List.range 6, -9223372036854775808 ≤ nl.exit r d ∧ nl.exit r d ≤ 9223372036854775807 := by decide
    exact this r hr' d hd'
  · have hb' : b ∈ List.range 6 := by simp [hb]
    have : ∀ b ∈ List.range 6, -9223372036854775808 ≤ nl.foe b ∧ nl.foe b ≤ 9223372036854775807 := by decide
    exact this b hb'
theorem good_nl : goodL nl = true := by kernel_rfl
end Go.Proofs.YtaifjndkgfffpaaDoor
/-
  A good land stays good, where a thing is moved, and where beings and doors turn: plain mathematics.
-/
namespace Go.Proofs.YtaifjndkgfffpaaDoor
open Go.RowKit
set_option linter.unusedVariables false

theorem way_of_path (L : Ld) : ∀ (q : List Int) (i : Int) (S : List Int) (n : Nat), PathR L q i → (∀ x ∈ q, x ∉ S) → q.length ≤ n → wayFrom L n S i = S ++ q := by
  intro q
  induction q with
  | nil => intro i S n h; exact h.elim
  | cons x r ih =>
    intro i S n h hd hn
    have hP : Path L i (x :: r) := h
    obtain ⟨rfl, ha, h⟩ := h
    obtain ⟨m, rfl⟩ : ∃ m, n = m + 1 := ⟨n - 1, by simp at hn; omega⟩
    simp only [wayFrom]
    rw [if_pos ⟨ha, hd x (List.mem_cons_self ..)⟩]
    rcases h with ⟨hw, rfl⟩ | ⟨hw, h⟩
    · rw [if_neg hw]
    · rw [if_pos hw, ih _ _ m h ?_ (by simp at hn; omega)]
      · simp
      · intro y hy hm
        rcases List.mem_append.1 hm with hm | hm
        · exact hd y (List.mem_cons_of_mem _ hy) hm
        · rw [List.mem_singleton.1 hm] at hy
          obtain ⟨p, q', e, hq⟩ := Path.part (show Path L (L.loc x.toNat) r from h) x hy
          have := hq.uniq _ hP
          rw [this] at e
          have hl := congrArg List.length e
          simp at hl
          omega
theorem path_nodup (L : Ld) : ∀ (q : List Int) (i : Int), PathR L q i → q.Nodup ∧ ∀ s ∈ q, 0 ≤ s ∧ s < 9 := by
  intro q
  induction q with
  | nil => intro i h; exact h.elim
  | cons x r ih =>
    intro i h
    have hP : Path L i (x :: r) := h
    obtain ⟨rfl, ha, h⟩ := h
    have hb := amg_pos ha
    rcases h with ⟨hw, rfl⟩ | ⟨hw, h⟩
    · refine ⟨by simp, fun s hs => ?_⟩
      rw [List.mem_singleton.1 hs]; exact hb
    · have := ih _ h
      refine ⟨List.nodup_cons.2 ⟨fun hm => ?_, this.1⟩, fun s hs => ?_⟩
      · obtain ⟨p, q', e, hq⟩ := Path.part (show Path L (L.loc x.toNat) r from h) x hm
        have e2 := hq.uniq _ hP
        rw [e2] at e
        have hl := congrArg List.length e
        simp at hl
        omega
      · rcases List.mem_cons.1 hs with rfl | hs
        · exact hb
        · exact this.2 s hs
theorem path_way' {L : Ld} {i : Int} {q : List Int} (h : Path L i q) : wayL L i = q := by
  have hl := path_nodup L q i h
  have := pigeon 9 q hl.1 hl.2
  have e := way_of_path L q i [] 10 h (fun _ _ => by simp) (by omega)
  simpa [wayL] using e
theorem path_last (L : Ld) : ∀ (q : List Int) (i : Int), PathR L q i → L.wh (q.getD (q.length - 1) 0).toNat ≠ 2 := by
  intro q
  induction q with
  | nil => intro i h; exact h.elim
  | cons x r ih =>
    intro i h
    obtain ⟨rfl, ha, h⟩ := h
    rcases h with ⟨hw, rfl⟩ | ⟨hw, h⟩
    · simpa using hw
    · have := ih _ h
      cases r with
      | nil => exact h.elim
      | cons y s => simpa using this
theorem path_ends {L : Ld} {i : Int} {q : List Int} (h : Path L i q) : L.wh (lastW L i) ≠ 2 := by
  unfold lastW; rw [path_way' h]; exact path_last L q i h

theorem path_same {L L' : Ld} (h1 : ∀ i : Nat, i < 9 → (L'.wh i = 2 ↔ L.wh i = 2)) (h2 : ∀ i : Nat, i < 9 → L.wh i = 2 → L'.loc i = L.loc i) : ∀ (q : List Int) (i : Int), PathR L q i → PathR L' q i := by
  intro q
  induction q with
  | nil => intro i h; exact h
  | cons x r ih =>
    intro i h
    obtain ⟨rfl, ha, h⟩ := h
    have hb := amg_pos ha
    refine ⟨rfl, ha, ?_⟩
    rcases h with ⟨hw, rfl⟩ | ⟨hw, h⟩
    · exact .inl ⟨fun e => hw ((h1 _ (by omega)).1 e), rfl⟩
    · exact .inr ⟨(h1 _ (by omega)).2 hw, by rw [h2 _ (by omega) hw]; exact ih _ h⟩
theorem path_off {L L' : Ld} {k : Nat} (h1 : ∀ i : Nat, i ≠ k → L'.wh i = L.wh i ∧ L'.loc i = L.loc i) : ∀ (q : List Int) (i : Int), PathR L q i → (k : Int) ∉ q → PathR L' q i := by
  intro q
  induction q with
  | nil => intro i h; exact h.elim
  | cons x r ih =>
    intro i h hk
    obtain ⟨rfl, ha, h⟩ := h
    have hb := amg_pos ha
    have hne : x.toNat ≠ k := fun e => hk (by rw [show (k : Int) = x by omega]; exact List.mem_cons_self ..)
    refine ⟨rfl, ha, ?_⟩
    rw [(h1 _ hne).1, (h1 _ hne).2]
    rcases h with ⟨hw, rfl⟩ | ⟨hw, h⟩
    · exact .inl ⟨hw, rfl⟩
    · exact .inr ⟨hw, ih _ h (fun hm => hk (List.mem_cons_of_mem _ hm))⟩
theorem path_move {L L' : Ld} {k : Nat} (h1 : ∀ i : Nat, i ≠ k → L'.wh i = L.wh i ∧ L'.loc i = L.loc i) (h2 : L'.wh k ≠ 2 ∨ (L'.wh k = 2 ∧ ∃ q, PathR L' q (L'.loc k))) : ∀ (q : List Int) (i : Int), PathR L q i → ∃ q', PathR L' q' i := by
  intro q
  induction q with
  | nil => intro i h; exact h.elim
  | cons x r ih =>
    intro i h
    obtain ⟨rfl, ha, h⟩ := h
    have hb := amg_pos ha
    by_cases hx : x.toNat = k
    · rcases h2 with h2 | ⟨h2, qq, h3⟩
      · exact ⟨[x], rfl, ha, .inl ⟨by rw [hx]; exact h2, rfl⟩⟩
      · exact ⟨x :: qq, rfl, ha, .inr ⟨by rw [hx]; exact h2, by rw [hx]; exact h3⟩⟩
    · rcases h with ⟨hw, rfl⟩ | ⟨hw, h⟩
      · exact ⟨[x], rfl, ha, .inl ⟨by rw [(h1 _ hx).1]; exact hw, rfl⟩⟩
      · obtain ⟨q', hq⟩ := ih _ h
        exact ⟨x :: q', rfl, ha, .inr ⟨by rw [(h1 _ hx).1]; exact hw, by rw [(h1 _ hx).2]; exact hq⟩⟩

theorem good_R {L : Ld} (hg : goodL L = true) (r : Nat) (hr : r < 6) : goodR L r = true := by
  unfold goodL at hg
  simp only [Bool.and_eq_true] at hg
  exact List.all_eq_true.1 hg.1.1 r (by simpa using hr)
theorem good_path {L : Ld} (hg : goodL L = true) (i : Nat) (hi : i < 9) : Path L (i : Int) (wayL L (i : Int)) := good_way hg (amg_mk (by omega) (by omega))
theorem good_kind {L : Ld} (hg : goodL L = true) (i : Nat) (hi : i < 9) : gkind (L.kind i) (L.wh i) (L.on i) = true ∧ gplace L (L.wh i) (L.loc i) = true := by
  have := good_T hg i hi
  unfold goodT at this
  simp only [Bool.and_eq_true] at this
  exact this.1
theorem good_mk {L : Ld} (h1 : ∀ r, r < 6 → goodR L r = true) (h2 : ∀ b, b < 6 → goodB L b = true)
    (h3 : ∀ i : Nat, i < 9 → gkind (L.kind i) (L.wh i) (L.on i) = true ∧ gplace L (L.wh i) (L.loc i) = true ∧ ∃ q, PathR L q (i : Int)) : goodL L = true := by
  unfold goodL
  rw [all_ok h1, all_ok h2, all_ok fun i hi => ?_]
  · rfl
  · obtain ⟨e1, e2, q, hq⟩ := h3 i hi
    have := path_ends (show Path L (i : Int) q from hq)
    unfold goodT
    rw [e1, e2]
    simpa using this

/-- What a good land's beings are. -/
theorem good_being {L : Ld} (hg : goodL L = true) (b : Nat) (hb : b < 6) : amg (L.room b) 6 = true ∧ 0 ≤ L.health b ∧ L.health b ≤ 10 ∧ L.here b = decide (0 < L.health b) ∧ (L.foe b = 0 ∨ (L.here b = true ∧ amg (L.foe b - 1) 6 = true)) := by
  have h := good_B hg b hb
  unfold goodB at h
  by_cases hn : amg (L.room b) 6 = false ∨ L.health b < 0 ∨ 10 < L.health b ∨ L.here b ≠ decide (0 < L.health b)
  · rw [gb_no hn] at h; simp at h
  · have h1 : amg (L.room b) 6 = true := by
      cases hx : amg (L.room b) 6 with
      | true => rfl
      | false => exact absurd (.inl hx) hn
    have h2 : ¬ L.health b < 0 := fun e => hn (.inr (.inl e))
    have h3 : ¬ 10 < L.health b := fun e => hn (.inr (.inr (.inl e)))
    have h4 : L.here b = decide (0 < L.health b) := by
      by_cases e : L.here b = decide (0 < L.health b)
      · exact e
      · exact absurd (.inr (.inr (.inr e))) hn
    rw [gb_yes h1 h2 h3 h4] at h
    refine ⟨h1, by omega, by omega, h4, ?_⟩
    simp only [Bool.or_eq_true, Bool.and_eq_true, beq_iff_eq] at h
    exact h
theorem being_mk {L : Ld} {b : Nat} (h1 : amg (L.room b) 6 = true) (h2 : 0 ≤ L.health b) (h3 : L.health b ≤ 10) (h4 : L.here b = decide (0 < L.health b)) (h5 : L.foe b = 0 ∨ (L.here b = true ∧ amg (L.foe b - 1) 6 = true)) : goodB L b = true := by
  unfold goodB
  rw [gb_yes h1 (by omega) (by omega) h4]
  simp only [Bool.or_eq_true, Bool.and_eq_true, beq_iff_eq]
  exact h5
theorem good_exit {L : Ld} (hg : goodL L = true) (r d : Nat) (hr : r < 6) (hd : d < 6) : (L.exit r d = 0 ∧ L.shut r d = false) ∨ (L.exit r d ≠ 0 ∧ amg (L.exit r d - 1) 6 = true) := by
  have h := good_R hg r hr
  unfold goodR groom at h
  have := List.all_eq_true.1 h d (by simpa using hd)
  by_cases e : L.exit r d = 0
  · rw [if_pos e] at this; exact .inl ⟨e, by simpa using this⟩
  · rw [if_neg e] at this; exact .inr ⟨e, this⟩
/-- A good land with names that are not too long is fine. -/
theorem fine_of {L : Ld} (hg : goodL L = true) (h1 : ∀ r, r < 6 → (L.rname r).size ≤ 1048576) (h2 : ∀ i, i < 9 → (L.tname i).size ≤ 1048576) (h3 : ∀ b, b < 6 → (L.bname b).size ≤ 1048576) : Fine L := by
  refine ⟨fun b hb => ?_, fun r d hr hd => ?_, fun b hb => ?_, fun b hb => ?_, h1, h2, h3⟩
  · have := amg_pos (good_being hg b hb).1
    exact ⟨(L.room b).toNat, by omega, by omega⟩
  · rcases good_exit hg r d hr hd with h | h
    · exact .inl h.1
    · have := amg_pos h.2
      exact .inr ⟨(L.exit r d - 1).toNat, by omega, by omega⟩
  · rcases (good_being hg b hb).2.2.2.2 with h | h
    · exact .inl h
    · have := amg_pos h.2
      exact .inr ⟨(L.foe b - 1).toNat, by omega, by omega⟩
  · have := good_being hg b hb
    omega
end Go.Proofs.YtaifjndkgfffpaaDoor
