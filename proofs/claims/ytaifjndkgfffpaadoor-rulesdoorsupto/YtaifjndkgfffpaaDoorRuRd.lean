/-
  A round of all fights: plain mathematics; what stays good, and who has lost what.
-/
import Derived.Test.YtaifjndkgfffpaaDoorRuGood
namespace Go.Proofs.YtaifjndkgfffpaaDoor
open Go.RowKit
set_option linter.unusedVariables false

def dropS (L : Ld) (b : Nat) (S : List Int) : Ld :=
  { L with wh := fun i => if (i : Int) ∈ S then 0 else L.wh i, loc := fun i => if (i : Int) ∈ S then L.room b else L.loc i, on := fun i => if (i : Int) ∈ S ∧ L.kind i = 2 then false else L.on i }
def freeK (L : Ld) (b k : Nat) : Ld := { L with foe := fun c => if c < k ∧ L.foe c = (b : Int) + 1 then 0 else L.foe c }
/-- All is let go. -/
def letGoL (L : Ld) (b : Nat) : Ld := (freeK (dropS L b (handL L b)) b 6).setFoe b 0
def zeroB (L : Ld) (b : Nat) : Ld := L.setBeing b ⟨#[]⟩ false false 0 0 0
def beginL (L : Ld) (b : Nat) : Ld := (L.setRoom b 0).setHealth b 10
def beginE (L : Ld) (b : Nat) : List Ev := allE L (evN L 17 b) :: lookE L b
def dieL (L : Ld) (b : Nat) : Ld := if b < 2 then zeroB (letGoL (L.setHealth b 1) b) b else beginL (letGoL (L.setHealth b 1) b) b
def dieE (L : Ld) (b : Nat) : List Ev := allE (L.setHealth b 1) (evN (L.setHealth b 1) 15 b) :: (if b < 2 then [] else beginE (beginL (letGoL (L.setHealth b 1) b) b) b)
def foeN (L : Ld) (b : Nat) : Nat := (L.foe b - 1).toNat
def meets (L : Ld) (b : Nat) : Bool := L.here (foeN L b) && decide (L.room (foeN L b) = L.room b)
def hitL (L : Ld) (c : Nat) (n : Int) : Ld := L.setHealth c (L.health c - n)
def fightL (L : Ld) (b : Nat) (n : Int) : Ld :=
  if meets L b = true then (if L.health (foeN L b) - n < 1 then dieL (hitL L (foeN L b) n) (foeN L b) else hitL L (foeN L b) n) else L.setFoe b 0
def fightE (L : Ld) (b : Nat) (n : Int) : List Ev :=
  if meets L b = true then allE L { evW L 14 b (foeN L b) with num := n } :: (if L.health (foeN L b) - n < 1 then dieE (hitL L (foeN L b) n) (foeN L b) else []) else []
def blowN (dr k : Nat) : Int := 1 + ((dr + k) % 3 : Nat)
def roundK (L : Ld) (dr : Nat) : Nat → Ld × List Ev
  | 0 => (L, [])
  | k + 1 => if (roundK L dr k).1.foe k = 0 then roundK L dr k else (fightL (roundK L dr k).1 k (blowN dr k), (roundK L dr k).2 ++ fightE (roundK L dr k).1 k (blowN dr k))

theorem blow_pos (dr k : Nat) : 1 ≤ blowN dr k ∧ blowN dr k ≤ 3 := by unfold blowN; omega
theorem begin_len (L : Ld) (b : Nat) : (beginE L b).length ≤ 10 := by
  have := look_len L b
  simp only [beginE, List.length_cons]; omega
theorem die_len (L : Ld) (b : Nat) : (dieE L b).length ≤ 11 := by
  unfold dieE
  have := begin_len (beginL (letGoL (L.setHealth b 1) b) b) b
  split <;> simp only [List.length_cons, List.length_nil] <;> omega
theorem fight_len (L : Ld) (b : Nat) (n : Int) : (fightE L b n).length ≤ 12 := by
  unfold fightE
  have := die_len (hitL L (foeN L b) n) (foeN L b)
  split
  · simp only [List.length_cons]; split <;> (try simp only [List.length_nil]) <;> omega
  · simp
theorem round_len (L : Ld) (dr k : Nat) : (roundK L dr k).2.length ≤ k * 12 := by
  induction k with
  | zero => simp [roundK]
  | succ k ih =>
    have := fight_len (roundK L dr k).1 k (blowN dr k)
    simp only [roundK]
    split
    · omega
    · simp only [List.length_append]; omega

theorem hand_iff (L : Ld) (b i : Nat) : (i : Int) ∈ handL L b ↔ i < 9 ∧ L.wh i = 1 ∧ L.loc i = (b : Int) := by
  constructor
  · intro h
    obtain ⟨j, e, hj, ha⟩ := hasK_mem h
    have : i = j := by omega
    subst this
    simpa [isAt, hj] using ha
  · rintro ⟨h1, h2, h3⟩
    exact hasK_of h1 (by simp [isAt, h2, h3])

/-- Names and exits and kinds are as they were. -/
structure Alike (L L' : Ld) : Prop where
  rname : L'.rname = L.rname
  dark : L'.dark = L.dark
  exit : L'.exit = L.exit
  tname : L'.tname = L.tname
  kind : L'.kind = L.kind
  bname : ∀ b, L'.bname b = L.bname b ∨ L'.bname b = ⟨#[]⟩
theorem Alike.refl (L : Ld) : Alike L L := ⟨rfl, rfl, rfl, rfl, rfl, fun _ => .inl rfl⟩
theorem Alike.trans {A B C : Ld} (h : Alike A B) (k : Alike B C) : Alike A C :=
  ⟨k.rname.trans h.rname, k.dark.trans h.dark, k.exit.trans h.exit, k.tname.trans h.tname, k.kind.trans h.kind, fun b => by
    rcases k.bname b with e | e
    · rw [e]; exact h.bname b
    · exact .inr e⟩
theorem Alike.fine {L L' : Ld} (h : Alike L L') (hf : Fine L) (hg : goodL L' = true) : Fine L' :=
  fine_of hg (fun r hr => by rw [h.rname]; exact hf.rname r hr) (fun i hi => by rw [h.tname]; exact hf.tname i hi) (fun b hb => by
    rcases h.bname b with e | e
    · rw [e]; exact hf.bname b hb
    · rw [e]; decide)
theorem al_room (L : Ld) (b : Nat) (x : Int) : Alike L (L.setRoom b x) := ⟨rfl, rfl, rfl, rfl, rfl, fun _ => .inl rfl⟩
theorem al_health (L : Ld) (b : Nat) (x : Int) : Alike L (L.setHealth b x) := ⟨rfl, rfl, rfl, rfl, rfl, fun _ => .inl rfl⟩
theorem al_foe (L : Ld) (b : Nat) (x : Int) : Alike L (L.setFoe b x) := ⟨rfl, rfl, rfl, rfl, rfl, fun _ => .inl rfl⟩
theorem al_zero (L : Ld) (b : Nat) : Alike L (zeroB L b) := ⟨rfl, rfl, rfl, rfl, rfl, fun c => by
  by_cases e : c = b
  · right; simp [zeroB, Ld.setBeing, e]
  · left; simp [zeroB, Ld.setBeing, e]⟩
theorem al_letGo (L : Ld) (b : Nat) : Alike L (letGoL L b) := ⟨rfl, rfl, rfl, rfl, rfl, fun _ => .inl rfl⟩

/-- A land whose rooms are the same, and whose beings are good ones, with the same of them about, is good. -/
theorem good_beings {L L' : Ld} (hg : goodL L = true) (h1 : L'.exit = L.exit) (h2 : L'.shut = L.shut) (h3 : L'.kind = L.kind) (h4 : L'.wh = L.wh) (h5 : L'.loc = L.loc) (h6 : L'.on = L.on)
    (h7 : ∀ b, b < 6 → goodB L' b = true) (h8 : ∀ i : Nat, i < 9 → L.wh i = 1 → L'.here (L.loc i).toNat = L.here (L.loc i).toNat) : goodL L' = true := by
  refine good_mk (fun r hr => ?_) h7 fun i hi => ?_
  · have := good_R hg r hr
    unfold goodR at this ⊢
    rw [h1, h2]; exact this
  · have hk := good_kind hg i hi
    rw [h3, h4, h5, h6]
    refine ⟨hk.1, ?_, _, path_same (fun j _ => by rw [h4]) (fun j _ _ => by rw [h5]) _ _ (good_path hg i hi)⟩
    have := hk.2
    unfold gplace at this ⊢
    by_cases e0 : L.wh i = 0
    · rw [if_pos e0] at this ⊢; exact this
    · rw [if_neg e0] at this ⊢
      by_cases e1 : L.wh i = 1
      · rw [if_pos e1] at this ⊢; rw [h8 i hi e1]; exact this
      · rw [if_neg e1] at this ⊢; rw [h3]; exact this
theorem good_health {L : Ld} (hg : goodL L = true) {c : Nat} (hc : c < 6) (hh : L.here c = true) {x : Int} (h1 : 1 ≤ x) (h2 : x ≤ 10) : goodL (L.setHealth c x) = true := by
  refine good_beings hg rfl rfl rfl rfl rfl rfl (fun b hb => ?_) (fun _ _ _ => rfl)
  have h := good_being hg b hb
  by_cases e : b = c
  · subst e
    refine being_mk h.1 ?_ ?_ ?_ h.2.2.2.2
    · simp [Ld.setHealth]; omega
    · simp [Ld.setHealth]; omega
    · show L.here b = _
      rw [hh]; simp [Ld.setHealth]; omega
  · refine being_mk h.1 ?_ ?_ ?_ h.2.2.2.2
    · simp [Ld.setHealth, e]; exact h.2.1
    · simp [Ld.setHealth, e]; exact h.2.2.1
    · simp [Ld.setHealth, e]; simpa using h.2.2.2.1
theorem good_foe {L : Ld} (hg : goodL L = true) (c : Nat) {x : Int} (hx : x = 0 ∨ (L.here c = true ∧ amg (x - 1) 6 = true)) : goodL (L.setFoe c x) = true := by
  refine good_beings hg rfl rfl rfl rfl rfl rfl (fun b hb => ?_) (fun _ _ _ => rfl)
  have h := good_being hg b hb
  refine being_mk h.1 h.2.1 h.2.2.1 h.2.2.2.1 ?_
  by_cases e : b = c
  · subst e; simpa [Ld.setFoe] using hx
  · simpa [Ld.setFoe, e] using h.2.2.2.2
theorem good_room' {L : Ld} (hg : goodL L = true) (c : Nat) {x : Int} (hx : amg x 6 = true) : goodL (L.setRoom c x) = true := by
  refine good_beings hg rfl rfl rfl rfl rfl rfl (fun b hb => ?_) (fun _ _ _ => rfl)
  have h := good_being hg b hb
  refine being_mk ?_ h.2.1 h.2.2.1 h.2.2.2.1 h.2.2.2.2
  by_cases e : b = c
  · subst e; simpa [Ld.setRoom] using hx
  · simpa [Ld.setRoom, e] using h.1
theorem place_room {L : Ld} {x : Int} (h : amg x 6 = true) : gplace L 0 x = true := by
  unfold gplace; rw [if_pos rfl]; exact h
/-- Who has let all go is in a good land, and nothing is on it. -/
theorem good_letGo {L : Ld} (hg : goodL L = true) (b : Nat) (hb : b < 6) : goodL (letGoL L b) = true ∧ ∀ i, i < 9 → ¬ ((letGoL L b).wh i = 1 ∧ (letGoL L b).loc i = (b : Int)) := by
  have hr := (good_being hg b hb).1
  refine ⟨good_mk (fun r hr => by have := good_R hg r hr; unfold goodR at this ⊢; exact this) (fun c hc => ?_) fun i hi => ?_, fun i hi h => ?_⟩
  · have h := good_being hg c hc
    refine being_mk h.1 h.2.1 h.2.2.1 h.2.2.2.1 ?_
    show (if c = b then 0 else if c < 6 ∧ L.foe c = (b : Int) + 1 then 0 else L.foe c) = 0 ∨ (L.here c = true ∧ amg ((if c = b then 0 else if c < 6 ∧ L.foe c = (b : Int) + 1 then 0 else L.foe c) - 1) 6 = true)
    by_cases e : c = b
    · rw [if_pos e]; exact .inl rfl
    · rw [if_neg e]
      by_cases e2 : c < 6 ∧ L.foe c = (b : Int) + 1
      · rw [if_pos e2]; exact .inl rfl
      · rw [if_neg e2]; exact h.2.2.2.2
  · have hk := good_kind hg i hi
    have hwh : (letGoL L b).wh i = if (i : Int) ∈ handL L b then 0 else L.wh i := rfl
    have hloc : (letGoL L b).loc i = if (i : Int) ∈ handL L b then L.room b else L.loc i := rfl
    have hon : (letGoL L b).on i = if (i : Int) ∈ handL L b ∧ L.kind i = 2 then false else L.on i := rfl
    have hkind : (letGoL L b).kind i = L.kind i := rfl
    have hp : PathR (letGoL L b) (wayL L (i : Int)) (i : Int) := by
      refine path_same (fun j hj => ?_) (fun j hj h2 => ?_) _ _ (good_path hg i hi)
      · show (if (j : Int) ∈ handL L b then 0 else L.wh j) = 2 ↔ _
        by_cases e : (j : Int) ∈ handL L b
        · have := (hand_iff L b j).1 e
          rw [if_pos e]; omega
        · rw [if_neg e]
      · show (if (j : Int) ∈ handL L b then L.room b else L.loc j) = _
        rw [if_neg]
        intro e
        have := (hand_iff L b j).1 e
        omega
    refine ⟨?_, ?_, _, hp⟩
    · rw [hwh, hon, hkind]
      by_cases e : (i : Int) ∈ handL L b
      · have := (hand_iff L b i).1 e
        rw [if_pos e]
        have hk1 := hk.1
        unfold gkind at hk1 ⊢
        by_cases k0 : L.kind i = 0
        · rw [if_pos k0] at hk1 ⊢; rw [if_neg (by omega)]; exact hk1
        · rw [if_neg k0] at hk1 ⊢
          by_cases k2 : L.kind i = 2
          · rw [if_pos k2] at hk1 ⊢; rw [if_pos ⟨e, k2⟩]; rfl
          · rw [if_neg k2] at hk1 ⊢; exact hk1
      · rw [if_neg e, if_neg (fun h => e h.1)]; exact hk.1
    · rw [hwh, hloc]
      by_cases e : (i : Int) ∈ handL L b
      · rw [if_pos e, if_pos e]; exact place_room hr
      · rw [if_neg e, if_neg e]; exact hk.2
  · obtain ⟨h1, h2⟩ := h
    have hwh : (letGoL L b).wh i = if (i : Int) ∈ handL L b then 0 else L.wh i := rfl
    have hloc : (letGoL L b).loc i = if (i : Int) ∈ handL L b then L.room b else L.loc i := rfl
    rw [hwh] at h1
    rw [hloc] at h2
    by_cases e : (i : Int) ∈ handL L b
    · rw [if_pos e] at h1; omega
    · rw [if_neg e] at h1 h2
      exact e ((hand_iff L b i).2 ⟨hi, h1, h2⟩)
theorem good_zero {L : Ld} (hg : goodL L = true) (b : Nat) (hb : b < 6) (hn : ∀ i, i < 9 → ¬ (L.wh i = 1 ∧ L.loc i = (b : Int))) : goodL (zeroB L b) = true := by
  refine good_beings hg rfl rfl rfl rfl rfl rfl (fun c hc => ?_) (fun i hi h1 => ?_)
  · have h := good_being hg c hc
    by_cases e : c = b
    · subst e
      refine being_mk ?_ ?_ ?_ ?_ ?_ <;> simp [zeroB, Ld.setBeing, amg]
    · refine being_mk ?_ ?_ ?_ ?_ ?_ <;> simp [zeroB, Ld.setBeing, e]
      · exact h.1
      · exact h.2.1
      · exact h.2.2.1
      · simpa using h.2.2.2.1
      · exact h.2.2.2.2
  · have hne : (L.loc i).toNat ≠ b := by
      intro e
      have hp := (good_kind hg i hi).2
      unfold gplace at hp
      rw [if_neg (by omega), if_pos h1] at hp
      simp only [Bool.and_eq_true] at hp
      have := amg_pos hp.1
      exact hn i hi ⟨h1, by omega⟩
    simp [zeroB, Ld.setBeing, hne]
theorem good_begin {L : Ld} (hg : goodL L = true) (b : Nat) (hb : b < 6) (hh : L.here b = true) : goodL (beginL L b) = true :=
  good_health (good_room' hg b (by decide)) hb hh (by omega) (by omega)
theorem die_good {L : Ld} (b : Nat) (hb : b < 6) (hg : goodL (L.setHealth b 1) = true) (hh : L.here b = true) : goodL (dieL L b) = true := by
  have h1 := good_letGo hg b hb
  unfold dieL
  split
  · exact good_zero h1.1 b hb h1.2
  · exact good_begin h1.1 b hb hh
theorem al_die (L : Ld) (b : Nat) : Alike L (dieL L b) := by
  have h := (al_health L b 1).trans (al_letGo (L.setHealth b 1) b)
  unfold dieL
  split
  · exact h.trans (al_zero _ b)
  · exact h.trans ((al_room _ b 0).trans (al_health _ b 10))
end Go.Proofs.YtaifjndkgfffpaaDoor
