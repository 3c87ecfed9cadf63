/-
  Where a thing is at last, as the document's own answer goes through boxes; light, cloaks, who sees whom, who perceives what: plain mathematics of a land.
-/
import Derived.Test.YtaifjndkgfffpaaDoorLdRoom
namespace Go.Proofs.YtaifjndkgfffpaaDoor
open Go.RowKit
set_option linter.unusedVariables false

/-- What the document's own answer finds at the end of a thing's way: where, at what, whether all is open, whether it is anywhere. -/
def rootL (L : Ld) (i : Int) : Int × Int × Bool × Bool :=
  if wayL L i ≠ [] ∧ L.wh (lastW L i) ≠ 2 then (L.wh (lastW L i), L.loc (lastW L i), openW L i, decide (L.wh (lastW L i) = 0) || decide (L.wh (lastW L i) = 1)) else (0, 0, false, false)

/-- The room, out of that. -/
def roomOf (L : Ld) (t : Int × Int × Bool × Bool) : Int × Bool :=
  if t.2.2.2 = true ∧ t.1 = 1 then (if t.2.1 < 0 ∨ 5 < t.2.1 then (-1, false) else (L.room t.2.1.toNat, t.2.2.1)) else if t.2.2.2 = true then (t.2.1, t.2.2.1) else (-1, false)

theorem room_root (L : Ld) (i : Int) : roomOf L (rootL L i) = roomL L i := by
  unfold rootL roomL
  by_cases hne : wayL L i = []
  · rw [if_neg (by simp [hne]), if_pos hne]; rfl
  · by_cases h2 : L.wh (lastW L i) = 2
    · rw [if_neg (by simp [h2]), if_neg hne, if_neg (by omega), if_neg (by intro h; omega)]; rfl
    · rw [if_pos ⟨hne, h2⟩, if_neg hne]
      by_cases h0 : L.wh (lastW L i) = 0
      · rw [if_pos h0]; simp [roomOf, h0]
      · rw [if_neg h0]
        by_cases h1 : L.wh (lastW L i) = 1
        · simp only [roomOf, h1, decide_true, Bool.or_true, true_and, if_true]
          by_cases ha : amg (L.loc (lastW L i)) 6 = true
          · have := amg_pos ha
            rw [if_pos ha, if_neg (by omega)]
          · rw [if_neg ha, if_pos]
            unfold amg at ha
            simp at ha
            omega
        · simp [roomOf, h0, h1]

/-- The document's way: S was gone through, i is next, o: all open so far. -/
structure Rt (L : Ld) (i0 : Int) (S : List Int) (i : Int) (o : Bool) : Prop where
  win : WIn S
  box : ∀ s ∈ S, L.wh s.toNat = 2
  way : wayFrom L (10 - S.length) S i = wayL L i0
  opn : amg i 9 = true → o = ((S ++ [i]).drop 1).all fun b => L.on b.toNat

section
variable {L : Ld} {i0 i : Int} {S : List Int} {o : Bool}

theorem rt_start (L : Ld) (i0 : Int) : Rt L i0 [] i0 true :=
  ⟨⟨List.nodup_nil, fun s h => by simp at h⟩, fun s h => by simp at h, rfl, fun _ => rfl⟩

theorem Rt.len (h : Rt L i0 S i o) : S.length ≤ 9 := pigeon 9 _ h.win.nodup h.win.inn

theorem drop_snoc {S : List Int} (hne : S ≠ []) (j : Int) : (S ++ [j]).drop 1 = S.drop 1 ++ [j] := by
  cases S with
  | nil => exact absurd rfl hne
  | cons a r => rfl

theorem Rt.step (h : Rt L i0 S i o) (ha : amg i 9 = true) (hn : i ∉ S) (h2 : L.wh i.toNat = 2) :
    Rt L i0 (S ++ [i]) (L.loc i.toNat) (if amg (L.loc i.toNat) 9 = true then o && L.on (L.loc i.toNat).toNat else o) := by
  have hs := h.win.snoc ha hn
  have hlen := h.len
  refine ⟨hs.1, fun s hm => ?_, ?_, fun hj => ?_⟩
  · rcases List.mem_append.1 hm with hm | hm
    · exact h.box s hm
    · rw [List.mem_singleton.1 hm]; exact h2
  · obtain ⟨m, hm⟩ : ∃ m, 10 - S.length = m + 1 := ⟨9 - S.length, by omega⟩
    have hw := h.way
    rw [hm] at hw
    simp only [wayFrom] at hw
    rw [if_pos ⟨ha, hn⟩, if_pos h2] at hw
    rw [← hw]
    simp only [List.length_append, List.length_singleton]
    rw [show 10 - (S.length + 1) = m by omega]
  · rw [if_pos hj, drop_snoc (by simp), List.all_append, ← h.opn ha]
    simp

theorem Rt.done (h : Rt L i0 S i o) (ha : amg i 9 = true) (hn : i ∉ S) (h2 : L.wh i.toNat ≠ 2) :
    rootL L i0 = (L.wh i.toNat, L.loc i.toNat, o, decide (L.wh i.toNat = 0) || decide (L.wh i.toNat = 1)) := by
  have hlen := h.len
  obtain ⟨m, hm⟩ : ∃ m, 10 - S.length = m + 1 := ⟨9 - S.length, by omega⟩
  have hw := h.way
  rw [hm] at hw
  simp only [wayFrom] at hw
  rw [if_pos ⟨ha, hn⟩, if_neg h2] at hw
  have hne : wayL L i0 ≠ [] := by rw [← hw]; simp
  have hl : lastW L i0 = i.toNat := by
    unfold lastW; rw [← hw]; simp
  unfold rootL openW
  rw [hl, if_pos ⟨hne, h2⟩, ← hw, ← h.opn ha]

theorem Rt.out (h : Rt L i0 S i o) (hn : amg i 9 = false ∨ i ∈ S) : rootL L i0 = (0, 0, false, false) := by
  have hlen := h.len
  obtain ⟨m, hm⟩ : ∃ m, 10 - S.length = m + 1 := ⟨9 - S.length, by omega⟩
  have hw := h.way
  rw [hm] at hw
  simp only [wayFrom] at hw
  rw [if_neg (by
    rintro ⟨h1, h2⟩
    rcases hn with hn | hn
    · rw [hn] at h1; simp at h1
    · exact h2 hn)] at hw
  unfold rootL
  rw [if_neg]
  rintro ⟨hne, h2⟩
  have hl : 0 < (wayL L i0).length := List.length_pos_iff.2 hne
  have hmem := getD_mem (q := wayL L i0) (k := (wayL L i0).length - 1) (by omega)
  refine h2 ?_
  have := h.box ((wayL L i0).getD ((wayL L i0).length - 1) 0) (by rw [← hw] at hmem ⊢; exact hmem)
  exact this
end

/-- A lamp that shines into a room. -/
def shines (L : Ld) (r : Int) (i : Nat) : Bool := decide (L.kind i = 1) && L.on i && (roomL L i).2 && decide ((roomL L i).1 = r)
def brightL (L : Ld) (r : Int) : Bool := amg r 6 && (!L.dark r.toNat || (List.range 9).any (shines L r))
/-- A cloak that hides a being. -/
def cloaks (L : Ld) (b : Int) (i : Nat) : Bool := decide (L.wh i = 1) && decide (L.loc i = b) && decide (L.kind i = 2) && L.on i
def hiddenL (L : Ld) (b : Int) : Bool := (List.range 9).any (cloaks L b)
def abtL (L : Ld) (b : Int) : Bool := amg b 6 && L.here b.toNat
def seesL (L : Ld) (a b : Int) : Bool :=
  abtL L a && abtL L b && (decide (a = b) || (decide (L.room a.toNat = L.room b.toNat) && brightL L (L.room b.toNat) && (!hiddenL L b || L.keen a.toNat)))

def loud (k : Int) : Bool := decide (k = 7) || decide (k = 14) || decide (k = 15)
/-- How a being perceives an event. -/
def percL (L : Ld) (b kind room actor other : Int) : Int :=
  if abtL L b = false then 0
  else if b ≠ actor ∧ (kind = 16 ∨ L.room b.toNat ≠ room) then 0
  else if b ≠ actor ∧ seesL L b actor = false ∧ loud kind = false then 0
  else (if b ≠ actor ∧ seesL L b actor = false then 3 else 1) + (if amg other 6 = true ∧ seesL L b other = false then 4 else 0)

theorem sees_self (L : Ld) (a : Int) : seesL L a a = abtL L a := by simp [seesL]
theorem sees_about {L : Ld} {a b : Int} (h : seesL L a b = true) : abtL L a = true ∧ abtL L b = true := by
  simp only [seesL, Bool.and_eq_true] at h; exact h.1
theorem sees_far {L : Ld} {a b : Int} (h : seesL L a b = true) (hne : a ≠ b) : L.room a.toNat = L.room b.toNat ∧ brightL L (L.room b.toNat) = true ∧ (hiddenL L b = false ∨ L.keen a.toNat = true) := by
  simp only [seesL, Bool.and_eq_true, Bool.or_eq_true, decide_eq_true_eq, Bool.not_eq_true'] at h
  rcases h.2 with h | ⟨⟨h1, h2⟩, h3⟩
  · exact absurd h hne
  · exact ⟨h1, h2, h3⟩

/-- The values that can be. -/
theorem perc_cases (L : Ld) (b kind room actor other : Int) : percL L b kind room actor other = 0 ∨ percL L b kind room actor other = 1 ∨ percL L b kind room actor other = 3 ∨ percL L b kind room actor other = 5 ∨ percL L b kind room actor other = 7 := by
  unfold percL
  repeat' split
  all_goals omega

theorem perc_some {L : Ld} {b kind room actor other : Int} (h : percL L b kind room actor other ≠ 0) :
    abtL L b = true ∧ (b = actor ∨ (kind ≠ 16 ∧ L.room b.toNat = room ∧ (seesL L b actor = true ∨ loud kind = true))) ∧
    percL L b kind room actor other = (if b ≠ actor ∧ seesL L b actor = false then 3 else 1) + (if amg other 6 = true ∧ seesL L b other = false then 4 else 0) := by
  unfold percL at h ⊢
  by_cases h1 : abtL L b = false
  · rw [if_pos h1] at h; exact absurd rfl h
  · rw [if_neg h1] at h ⊢
    by_cases h2 : b ≠ actor ∧ (kind = 16 ∨ L.room b.toNat ≠ room)
    · rw [if_pos h2] at h; exact absurd rfl h
    · rw [if_neg h2] at h ⊢
      by_cases h3 : b ≠ actor ∧ seesL L b actor = false ∧ loud kind = false
      · rw [if_pos h3] at h; exact absurd rfl h
      · rw [if_neg h3]
        refine ⟨by simpa using h1, ?_, rfl⟩
        by_cases hb : b = actor
        · exact .inl hb
        · refine .inr ⟨fun e => h2 ⟨hb, .inl e⟩, ?_, ?_⟩
          · by_cases hr : L.room b.toNat = room
            · exact hr
            · exact absurd ⟨hb, .inr hr⟩ h2
          · cases hs : seesL L b actor with
            | true => exact .inl rfl
            | false =>
              refine .inr ?_
              cases hl : loud kind with
              | true => rfl
              | false => exact absurd ⟨hb, hs, hl⟩ h3
end Go.Proofs.YtaifjndkgfffpaaDoor
