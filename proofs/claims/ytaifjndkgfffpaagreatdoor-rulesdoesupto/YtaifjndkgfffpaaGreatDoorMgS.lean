/-
  What an order comes to, verb by verb; what it leaves as it was: plain mathematics.
-/
import Derived.Test.YtaifjndkgfffpaaGreatDoorRuActA
import Derived.Test.YtaifjndkgfffpaaGreatDoorMgF
import Derived.Test.YtaifjndkgfffpaaGreatDoorRuDo2
namespace Go.Proofs.YtaifjndkgfffpaaGreatDoor
open Go.RowKit
set_option linter.unusedVariables false
/-- The land behind an order. -/
def actL (L : Ld) (b : Nat) (O : Od) : Ld :=
  if O.verb = 6 then L else if O.verb = 7 then getAL L b O else if O.verb = 8 then partL L b O 0 (L.room b) (evN L 4 b) else if O.verb = 9 then putL L b O else if O.verb = 10 then giveL L b O
  else if O.verb = 11 then L else if O.verb = 12 ∨ O.verb = 13 then (if (dirA O.name.data.toList).2 = true then doorL L b (dirA O.name.data.toList).1.toNat (turnedC O.verb) else turnL L b O (turnedC O.verb))
  else if O.verb = 14 ∨ O.verb = 15 ∨ O.verb = 16 ∨ O.verb = 17 then turnL L b O (turnedC O.verb) else if O.verb = 18 then hitsL L b O else if O.verb = 19 then L else if O.verb = 20 then zeroB (letGoL L b) b else walkL L b O.verb.toNat
/-- What happens. -/
def actE (L : Ld) (b : Nat) (O : Od) : List Ev :=
  if O.verb = 6 then lookE L b else if O.verb = 7 then getAE L b O else if O.verb = 8 then partE L b O 0 (L.room b) (evN L 4 b) else if O.verb = 9 then putE L b O else if O.verb = 10 then giveE L b O
  else if O.verb = 11 then [allE L { evN L 7 b with text := O.text }] else if O.verb = 12 ∨ O.verb = 13 then (if (dirA O.name.data.toList).2 = true then doorE L b (dirA O.name.data.toList).1.toNat (turnedC O.verb) else turnE L b O (turnedC O.verb))
  else if O.verb = 14 ∨ O.verb = 15 ∨ O.verb = 16 ∨ O.verb = 17 then turnE L b O (turnedC O.verb) else if O.verb = 18 then hitsE L b O else if O.verb = 19 then [tellE L b (haveS ++ listedT L (handL L b))] else if O.verb = 20 then [allE L (evN L 18 b)] else walkE L b O.verb.toNat

theorem dirA_cases (l : List UInt8) : (∃ d : Nat, d < 6 ∧ dirA l = ((d : Int), true)) ∨ dirA l = (0, false) := by
  unfold dirA
  cases h : dirL l with
  | none => exact .inr rfl
  | some d =>
    left
    refine ⟨d, ?_, rfl⟩
    unfold dirL at h
    have := (List.findIdx?_eq_some_iff_getElem.1 h).1
    simp at this; omega
/-- A verb of an order: which way it goes. -/
theorem act_cases {P : Prop} (L : Ld) (b : Nat) (O : Od) (h0 : 0 ≤ O.verb) (h1 : O.verb ≤ 20)
    (look : O.verb = 6 → actL L b O = L → actE L b O = lookE L b → P)
    (get : O.verb = 7 → actL L b O = getAL L b O → actE L b O = getAE L b O → P)
    (drop : O.verb = 8 → actL L b O = partL L b O 0 (L.room b) (evN L 4 b) → actE L b O = partE L b O 0 (L.room b) (evN L 4 b) → P)
    (put : O.verb = 9 → actL L b O = putL L b O → actE L b O = putE L b O → P)
    (give : O.verb = 10 → actL L b O = giveL L b O → actE L b O = giveE L b O → P)
    (say : O.verb = 11 → actL L b O = L → actE L b O = [allE L { evN L 7 b with text := O.text }] → P)
    (door : ∀ d : Nat, d < 6 → O.verb = 12 ∨ O.verb = 13 → dirA O.name.data.toList = ((d : Int), true) → actL L b O = doorL L b d (turnedC O.verb) → actE L b O = doorE L b d (turnedC O.verb) → P)
    (turn1 : O.verb = 12 ∨ O.verb = 13 → dirA O.name.data.toList = (0, false) → actL L b O = turnL L b O (turnedC O.verb) → actE L b O = turnE L b O (turnedC O.verb) → P)
    (turn2 : O.verb = 14 ∨ O.verb = 15 ∨ O.verb = 16 ∨ O.verb = 17 → actL L b O = turnL L b O (turnedC O.verb) → actE L b O = turnE L b O (turnedC O.verb) → P)
    (hit : O.verb = 18 → actL L b O = hitsL L b O → actE L b O = hitsE L b O → P)
    (inv : O.verb = 19 → actL L b O = L → actE L b O = [tellE L b (haveS ++ listedT L (handL L b))] → P)
    (quit : O.verb = 20 → actL L b O = zeroB (letGoL L b) b → actE L b O = [allE L (evN L 18 b)] → P)
    (walk : ∀ d : Nat, d < 6 → O.verb = (d : Int) → actL L b O = walkL L b d → actE L b O = walkE L b d → P) : P := by
  by_cases e6 : O.verb = 6
  · exact look e6 (by unfold actL; rw [if_pos e6]) (by unfold actE; rw [if_pos e6])
  by_cases e7 : O.verb = 7
  · exact get e7 (by unfold actL; rw [if_neg e6, if_pos e7]) (by unfold actE; rw [if_neg e6, if_pos e7])
  by_cases e8 : O.verb = 8
  · exact drop e8 (by unfold actL; rw [if_neg e6, if_neg e7, if_pos e8]) (by unfold actE; rw [if_neg e6, if_neg e7, if_pos e8])
  by_cases e9 : O.verb = 9
  · exact put e9 (by unfold actL; rw [if_neg e6, if_neg e7, if_neg e8, if_pos e9]) (by unfold actE; rw [if_neg e6, if_neg e7, if_neg e8, if_pos e9])
  by_cases e10 : O.verb = 10
  · exact give e10 (by unfold actL; rw [if_neg e6, if_neg e7, if_neg e8, if_neg e9, if_pos e10]) (by unfold actE; rw [if_neg e6, if_neg e7, if_neg e8, if_neg e9, if_pos e10])
  by_cases e11 : O.verb = 11
  · exact say e11 (by unfold actL; rw [if_neg e6, if_neg e7, if_neg e8, if_neg e9, if_neg e10, if_pos e11]) (by unfold actE; rw [if_neg e6, if_neg e7, if_neg e8, if_neg e9, if_neg e10, if_pos e11])
  by_cases e12 : O.verb = 12 ∨ O.verb = 13
  · rcases dirA_cases O.name.data.toList with ⟨d, hd, e⟩ | e
    · exact door d hd e12 e (by unfold actL; rw [if_neg e6, if_neg e7, if_neg e8, if_neg e9, if_neg e10, if_neg e11, if_pos e12, e]; rfl) (by unfold actE; rw [if_neg e6, if_neg e7, if_neg e8, if_neg e9, if_neg e10, if_neg e11, if_pos e12, e]; rfl)
    · exact turn1 e12 e (by unfold actL; rw [if_neg e6, if_neg e7, if_neg e8, if_neg e9, if_neg e10, if_neg e11, if_pos e12, e]; rfl) (by unfold actE; rw [if_neg e6, if_neg e7, if_neg e8, if_neg e9, if_neg e10, if_neg e11, if_pos e12, e]; rfl)
  by_cases e14 : O.verb = 14 ∨ O.verb = 15 ∨ O.verb = 16 ∨ O.verb = 17
  · exact turn2 e14 (by unfold actL; rw [if_neg e6, if_neg e7, if_neg e8, if_neg e9, if_neg e10, if_neg e11, if_neg e12, if_pos e14]) (by unfold actE; rw [if_neg e6, if_neg e7, if_neg e8, if_neg e9, if_neg e10, if_neg e11, if_neg e12, if_pos e14])
  by_cases e18 : O.verb = 18
  · exact hit e18 (by unfold actL; rw [if_neg e6, if_neg e7, if_neg e8, if_neg e9, if_neg e10, if_neg e11, if_neg e12, if_neg e14, if_pos e18]) (by unfold actE; rw [if_neg e6, if_neg e7, if_neg e8, if_neg e9, if_neg e10, if_neg e11, if_neg e12, if_neg e14, if_pos e18])
  by_cases e19 : O.verb = 19
  · exact inv e19 (by unfold actL; rw [if_neg e6, if_neg e7, if_neg e8, if_neg e9, if_neg e10, if_neg e11, if_neg e12, if_neg e14, if_neg e18, if_pos e19]) (by unfold actE; rw [if_neg e6, if_neg e7, if_neg e8, if_neg e9, if_neg e10, if_neg e11, if_neg e12, if_neg e14, if_neg e18, if_pos e19])
  by_cases e20 : O.verb = 20
  · exact quit e20 (by unfold actL; rw [if_neg e6, if_neg e7, if_neg e8, if_neg e9, if_neg e10, if_neg e11, if_neg e12, if_neg e14, if_neg e18, if_neg e19, if_pos e20]) (by unfold actE; rw [if_neg e6, if_neg e7, if_neg e8, if_neg e9, if_neg e10, if_neg e11, if_neg e12, if_neg e14, if_neg e18, if_neg e19, if_pos e20])
  · exact walk O.verb.toNat (by omega) (by omega) (by unfold actL; rw [if_neg e6, if_neg e7, if_neg e8, if_neg e9, if_neg e10, if_neg e11, if_neg e12, if_neg e14, if_neg e18, if_neg e19, if_neg e20]) (by unfold actE; rw [if_neg e6, if_neg e7, if_neg e8, if_neg e9, if_neg e10, if_neg e11, if_neg e12, if_neg e14, if_neg e18, if_neg e19, if_neg e20])

/-- What act does, at every verb. -/
theorem act_any {w0 : World} {L : Ld} {Es : List Ev} {w : World} (hS : Sn 47 [] w0 L Es w) (hf : Fine L) (hg : goodL L = true) (hvb : Vb w0) (b : Nat) (hb : b < 6) (O : Od) (hO : OdOk O) (h0 : 0 ≤ O.verb) (h1 : O.verb ≤ 20) (hlen : Es.length ≤ 100000) :
    Calls Tryz.prog 9 #[.pointer (some ⟨w0.heap.size, 0, none⟩), .int .i64 (b : Int), .agg O.cells] w fun e w' => e = .returned (.tuple #[]) ∧ Sn 47 [] w0 (actL L b O) (Es ++ actE L b O) w' ∧ Stp w0.heap.size 165 w w' := by
  refine act_cases L b O h0 h1 ?_ ?_ ?_ ?_ ?_ ?_ ?_ ?_ ?_ ?_ ?_ ?_ ?_
  · intro h e1 e2; rw [e1, e2]; exact act_look hS hf hvb b hb O hO h hlen
  · intro h e1 e2; rw [e1, e2]; exact act_getA hS hf hvb b hb O hO h hlen
  · intro h e1 e2; rw [e1, e2]; exact act_drop hS hf hvb b hb O hO h hlen
  · intro h e1 e2; rw [e1, e2]; exact act_put hS hf hvb b hb O hO h hlen
  · intro h e1 e2; rw [e1, e2]; exact act_give hS hf hvb b hb O hO h hlen
  · intro h e1 e2; rw [e1, e2]; exact act_say hS hf hvb b hb O hO h hlen
  · intro d hd h hx e1 e2
    rw [e1, e2]
    rcases h with h | h
    · exact act_door12 hS hf hvb b hb O hO h d hd hx hlen
    · exact act_door13 hS hf hvb b hb O hO h d hd hx hlen
  · intro h hx e1 e2
    rw [e1, e2]
    rcases h with h | h
    · exact act_turn12 hS hf hvb b hb O hO h hx hlen
    · exact act_turn13 hS hf hvb b hb O hO h hx hlen
  · intro h e1 e2
    rw [e1, e2]
    rcases h with h | h | h | h
    · exact act_turn14 hS hf hvb b hb O hO h hlen
    · exact act_turn15 hS hf hvb b hb O hO h hlen
    · exact act_turn16 hS hf hvb b hb O hO h hlen
    · exact act_turn17 hS hf hvb b hb O hO h hlen
  · intro h e1 e2; rw [e1, e2]; exact act_hit hS hf hvb b hb O hO h hlen
  · intro h e1 e2; rw [e1, e2]; exact act_inv hS hf hvb b hb O hO h hlen
  · intro h e1 e2; rw [e1, e2]; exact act_quit hS hf hvb b hb O hO h hlen
  · intro d hd h e1 e2; rw [e1, e2]; exact act_go hS hf hg hvb b d hb hd O h (by omega)
/-
  Things have been moved, and nothing else: plain mathematics.
-/
/-- Things have been moved, and nothing else. -/
def Mv (L X : Ld) : Prop := ∃ f g, X = { L with wh := f, loc := g }
theorem Mv.refl (L : Ld) : Mv L L := ⟨L.wh, L.loc, rfl⟩
theorem Mv.move {L X : Ld} (h : Mv L X) (i : Nat) (wh loc : Int) : Mv L (moveL X i wh loc) := by
  obtain ⟨f, g, rfl⟩ := h
  exact ⟨_, _, rfl⟩
theorem mv_same {L X : Ld} (h : Mv L X) : X.kind = L.kind ∧ X.here = L.here ∧ X.on = L.on ∧ X.room = L.room ∧ X.tname = L.tname ∧ X.bname = L.bname := by
  obtain ⟨f, g, e⟩ := h
  rw [e]; exact ⟨rfl, rfl, rfl, rfl, rfl, rfl⟩
/-
  How many events come of an order; what is no refusal: plain mathematics.
-/
theorem refuses_nil {L : Ld} {b v : Int} (h : refuses L b v = 0) : goodL L = true ∧ amg b 6 = true ∧ L.here b.toNat = true ∧ 0 ≤ v ∧ v ≤ 20 := by
  unfold refuses at h
  by_cases h1 : goodL L = false
  · rw [if_pos h1] at h; omega
  · rw [if_neg h1] at h
    by_cases h2 : amg b 6 = false
    · rw [if_pos h2] at h; omega
    · rw [if_neg h2] at h
      by_cases h3 : L.here b.toNat = false
      · rw [if_pos h3] at h; omega
      · rw [if_neg h3] at h
        by_cases h4 : v < 0 ∨ 20 < v
        · rw [if_pos h4] at h; omega
        · exact ⟨by simpa using h1, by simpa using h2, by simpa using h3, by omega, by omega⟩
/-- The number of what comes of an order. -/
theorem act_len (L : Ld) (b : Nat) (O : Od) : (actE L b O).length ≤ 100 := by
  have hl := look_len L b
  have hp : ∀ (wh loc : Int) (E : Ev), (partE L b O wh loc E).length ≤ 11 := fun wh loc E => by
    have := had_len L b O
    unfold partE
    rw [List.length_append, part_len]
    unfold sigE
    split <;> simp <;> omega
  have hsg : ∀ (q : List Int) (s : ByteArray), (sigE L b q s).length ≤ 1 := fun q s => by unfold sigE; split <;> simp
  have hgt : (getE L b O).length ≤ 20 := by
    unfold getE
    rw [List.length_append, take_len]
    have h1 := hsg (meantL L (sightL L b) O.nth O.all O.name) noThingS
    have h2 : (meantL L (sightL L b) O.nth O.all O.name).length ≤ 9 := by
      have h0 := sight_len L b
      have h1 := List.length_filter_le (fits L O.name) (sightL L b)
      unfold meantL nthL
      split
      · omega
      · split <;> simp
    omega
  have hgb : (getBE L b O).length ≤ 20 := by
    unfold getBE
    split
    · simp
    · rename_i i _
      have h2 := in_len L i O
      have h1 := hsg (inL L i O) noThingS
      rw [List.length_append, take_len]
      omega
  unfold actE
  split
  · omega
  split
  · unfold getAE; split <;> omega
  split
  · have := hp 0 (L.room b) (evN L 4 b); omega
  split
  · unfold putE
    split
    · simp
    · rename_i i _
      have := hp 2 (i : Int) (stowE L b i); omega
  split
  · unfold giveE
    split
    · simp
    · rename_i i _
      have := hp 1 (i : Int) (evW L 6 b i); omega
  split
  · simp
  have hd : ∀ (d : Nat) (C : Chg), (doorE L b d C).length ≤ 1 := by
    intro d C
    unfold doorE
    repeat' split
    all_goals simp
  have ht : ∀ (C : Chg), (turnE L b O C).length ≤ 1 := by
    intro C
    unfold turnE
    repeat' split
    all_goals simp
  split
  · split
    · have := hd (dirA O.name.data.toList).1.toNat (turnedC O.verb); omega
    · have := ht (turnedC O.verb); omega
  split
  · have := ht (turnedC O.verb); omega
  split
  · unfold hitsE; split <;> simp
  split
  · simp
  split
  · simp
  unfold walkE
  have hw := look_len (walkL L b O.verb.toNat) b
  repeat' split
  all_goals simp
  omega
end Go.Proofs.YtaifjndkgfffpaaGreatDoor
