/-
  Whether a thing, a being, a room are good: contracts.
-/
import Derived.Test.YtncgcejlkmoliaaGreatDoorLdArm
namespace Go.Proofs.YtncgcejlkmoliaaGreatDoor
open Go.RowKit
set_option linter.unusedVariables false

/-- A thing's kind, and where it may be On. -/
def gkind (kind wh : Int) (on : Bool) : Bool := if kind = 0 then !on else if kind = 2 then (!on || wh == 1) else (kind == 1 || kind == 3)

theorem below_box (w : World) (o : Obj) : Below w.heap.size w (w.alloc o) := (Below.refl _ _).alloc (Nat.le_refl _) _

set_option maxHeartbeats 400000 in
theorem kind_any (s : ByteArray) (kind wh loc : Int) (on : Bool) (w : World) :
    Calls Tryz.prog 63 #[.agg #[.string s, .int .i64 kind, .int .i64 wh, .int .i64 loc, .bool on]] w fun e w' => e = .returned (.bool (gkind kind wh on)) ∧ Below w.heap.size w w' := by
  by_cases h0 : kind = 0
  · subst h0
    go_enter Tryz.func63, Tryz.ntmps63
    go_wp2
    go_ret
    exact ⟨rfl, below_box _ _⟩
  · have b0 : (kind == 0) = false := by simp [h0]
    by_cases h2 : kind = 2
    · subst h2
      cases on
      all_goals
        go_enter Tryz.func63, Tryz.ntmps63
        go_wp2
        go_ret
        exact ⟨ret_bool (by simp [gkind]), below_box _ _⟩
    · have b2 : (kind == 2) = false := by simp [h2]
      have HG := hide (show gkind kind wh on = (kind == 1 || kind == 3) by unfold gkind; rw [if_neg h0, if_neg h2])
      clear h0 h2
      by_cases h1 : kind = 1
      · have b1 : (kind == 1) = true := by simp [h1]
        have H1 := hide h1
        clear h1
        go_enter Tryz.func63, Tryz.ntmps63
        go_wp2
        go_ret
        exact ⟨ret_bool (by rw [HG.out, H1.out]; rfl), below_box _ _⟩
      · have b1 : (kind == 1) = false := by simp [h1]
        clear h1
        go_enter Tryz.func63, Tryz.ntmps63
        go_wp2
        go_ret
        exact ⟨ret_bool (by rw [HG.out, b1]; rfl), below_box _ _⟩

/-- A being. -/
def gbeing (here : Bool) (room health foe : Int) : Bool :=
  if amg room 6 = false ∨ health < 0 ∨ 10 < health ∨ here ≠ decide (0 < health) then false
  else (foe == 0) || (here && amg (foe - 1) 6)

theorem amg_wrap (n : Int) (k : Int) (hk : k ≤ 100) (hn : -9223372036854775808 ≤ n) (hn' : n ≤ 9223372036854775807) : amg (wrap64 (n - 1)) k = amg (n - 1) k := by
  by_cases h : n = -9223372036854775808
  · subst h
    have e : wrap64 (-9223372036854775808 - 1) = 9223372036854775807 := by unfold wrap64; omega
    rw [e, amg_no (by omega), amg_no (by omega)]
  · congr 1
    unfold wrap64
    omega


theorem gb_no {here : Bool} {room health foe : Int} (h : amg room 6 = false ∨ health < 0 ∨ 10 < health ∨ here ≠ decide (0 < health)) : gbeing here room health foe = false := by
  unfold gbeing; rw [if_pos h]
theorem gb_yes {here : Bool} {room health foe : Int} (h1 : amg room 6 = true) (h2 : ¬ health < 0) (h3 : ¬ 10 < health) (h4 : here = decide (0 < health)) : gbeing here room health foe = ((foe == 0) || (here && amg (foe - 1) 6)) := by
  unfold gbeing; rw [if_neg]
  rintro (h | h | h | h)
  · rw [h1] at h; simp at h
  · exact h2 h
  · exact h3 h
  · exact h h4

set_option maxHeartbeats 1000000 in
theorem being_any (s : ByteArray) (here keen : Bool) (room health foe : Int) (w : World) (hn : -9223372036854775808 ≤ foe) (hn' : foe ≤ 9223372036854775807) :
    Calls Tryz.prog 62 #[.agg #[.string s, .bool here, .bool keen, .int .i64 room, .int .i64 health, .int .i64 foe]] w fun e w' => e = .returned (.bool (gbeing here room health foe)) ∧ Below w.heap.size w w' := by
  cases ha : amg room 6 with
  | false =>
    have HG := hide (gb_no (here := here) (room := room) (health := health) (foe := foe) (.inl ha))
    go_enter Tryz.func62, Tryz.ntmps62
    go_wp2_with fail
    refine (among_any room 6 _).mono ?_
    rintro e w1 ⟨rfl, hw⟩
    rw [hw, ha]
    clear hw w1 ha
    go_wp2
    go_ret
    exact ⟨ret_bool HG.out.symm, below_box _ _⟩
  | true =>
    by_cases h2 : health < 0
    · have HG := hide (gb_no (here := here) (room := room) (health := health) (foe := foe) (.inr (.inl h2)))
      go_enter Tryz.func62, Tryz.ntmps62
      go_wp2_with fail
      refine (among_any room 6 _).mono ?_
      rintro e w1 ⟨rfl, hw⟩
      rw [hw, ha]
      clear hw w1 ha
      go_wp2
      go_ret
      exact ⟨ret_bool HG.out.symm, below_box _ _⟩
    · by_cases h3 : 10 < health
      · have HG := hide (gb_no (here := here) (room := room) (health := health) (foe := foe) (.inr (.inr (.inl h3))))
        go_enter Tryz.func62, Tryz.ntmps62
        go_wp2_with fail
        refine (among_any room 6 _).mono ?_
        rintro e w1 ⟨rfl, hw⟩
        rw [hw, ha]
        clear hw w1 ha
        go_wp2
        go_ret
        exact ⟨ret_bool HG.out.symm, below_box _ _⟩
      · by_cases h4 : here = decide (0 < health)
        · have HG := hide (gb_yes (foe := foe) ha h2 h3 h4)
          have H4 := hide h4
          by_cases hp : 0 < health
          · have e4 : here = true := by rw [h4]; simp [hp]
            subst e4
            clear h4
            by_cases hf : foe = 0
            · have hb : (foe == 0) = true := by simp [hf]
              have HF := hide hf
              clear hf
              go_enter Tryz.func62, Tryz.ntmps62
              go_wp2_with fail
              refine (among_any room 6 _).mono ?_
              rintro e w1 ⟨rfl, hw⟩
              rw [hw, ha]
              clear hw w1 ha
              go_wp2
              go_ret
              exact ⟨ret_bool (by rw [HG.out, hb]; rfl), below_box _ _⟩
            · have hb : (foe == 0) = false := by simp [hf]
              clear hf
              have HW := hide (amg_wrap foe 6 (by omega) hn hn')
              go_enter Tryz.func62, Tryz.ntmps62
              go_wp2_with fail
              refine (among_any room 6 _).mono ?_
              rintro e w1 ⟨rfl, hw⟩
              rw [hw, ha]
              clear hw w1 ha
              go_wp2_with fail
              refine (among_any _ 6 _).mono ?_
              rintro e w1 ⟨rfl, hw⟩
              rw [hw]
              clear hw w1
              go_wp2
              go_ret
              exact ⟨ret_bool (by rw [HG.out, hb]; first | (rw [← HW.out]; rfl) | rfl), below_box _ _⟩
          · have e4 : here = false := by rw [h4]; simp [hp]
            subst e4
            clear h4
            by_cases hf : foe = 0
            · have hb : (foe == 0) = true := by simp [hf]
              have HF := hide hf
              clear hf
              go_enter Tryz.func62, Tryz.ntmps62
              go_wp2_with fail
              refine (among_any room 6 _).mono ?_
              rintro e w1 ⟨rfl, hw⟩
              rw [hw, ha]
              clear hw w1 ha
              go_wp2
              go_ret
              exact ⟨ret_bool (by rw [HG.out, hb]; rfl), below_box _ _⟩
            · have hb : (foe == 0) = false := by simp [hf]
              clear hf
              go_enter Tryz.func62, Tryz.ntmps62
              go_wp2_with fail
              refine (among_any room 6 _).mono ?_
              rintro e w1 ⟨rfl, hw⟩
              rw [hw, ha]
              clear hw w1 ha
              go_wp2
              go_ret
              exact ⟨ret_bool (by rw [HG.out, hb]; rfl), below_box _ _⟩
        · have HG := hide (gb_no (here := here) (room := room) (health := health) (foe := foe) (.inr (.inr (.inr h4))))
          have H4 := hide h4
          by_cases hp : 0 < health
          · have e4 : here = false := by
              cases here with
              | false => rfl
              | true => exact absurd (by simp [hp]) h4
            subst e4
            clear h4
            go_enter Tryz.func62, Tryz.ntmps62
            go_wp2_with fail
            refine (among_any room 6 _).mono ?_
            rintro e w1 ⟨rfl, hw⟩
            rw [hw, ha]
            clear hw w1 ha
            go_wp2
            go_ret
            exact ⟨ret_bool HG.out.symm, below_box _ _⟩
          · have e4 : here = true := by
              cases here with
              | true => rfl
              | false => exact absurd (by simp [hp]) h4
            have hz : decide (0 < health) = false := by simp; omega
            have hy : decide (health < 0) = false := by simp; omega
            have hx : decide (10 < health) = false := by simp; omega
            subst e4
            clear h4
            go_enter Tryz.func62, Tryz.ntmps62
            go_wp2_with fail
            refine (among_any room 6 _).mono ?_
            rintro e w1 ⟨rfl, hw⟩
            rw [hw, ha]
            clear hw w1 ha
            go_wp2
            go_ret
            exact ⟨ret_bool HG.out.symm, below_box _ _⟩
end Go.Proofs.YtncgcejlkmoliaaGreatDoor
