/-
  What is at hand, and in sight; lists and ways as they are told: contracts.
-/
import Derived.Test.YtjkbmgjbmdcciafDoorRuEvT
namespace Go.Proofs.YtjkbmgjbmdcciafDoor
open Go.RowKit
set_option linter.unusedVariables false

/-- v is a list of numbers that was made behind base. -/
def OwnI (base : Nat) (w : World) (v : Value) (q : List Int) : Prop := w.ownsRow base 3 1 v q.length (icells q)
theorem OwnI.base {B B' : Nat} {w : World} {v : Value} {q : List Int} (h : OwnI B w v q) (hB : B' ≤ B) : OwnI B' w v q := by
  refine ⟨h.1, ?_⟩
  rcases h.2 with hn | ⟨g, cap, cur, rfl, h1, h2⟩
  · exact .inl hn
  · exact .inr ⟨g, cap, cur, rfl, Nat.le_trans hB h1, h2⟩
theorem OwnI.nums {B : Nat} {w : World} {v : Value} {q : List Int} (h : OwnI B w v q) : Nums w v q := nums_own h
theorem OwnI.shape {B : Nat} {w : World} {v : Value} {q : List Int} (h : OwnI B w v q) : ∃ (av : Option Addr) (cap : Nat), v = .slice av q.length cap := own_shapeN h
theorem ownI_nil (B : Nat) (w : World) : OwnI B w (.slice none 0 0) [] := World.ownsRow_nil _ _ _ _
theorem OwnI.below {B : Nat} {w w' : World} {v : Value} {q : List Int} (h : OwnI B w v q) (hb : Below w.heap.size w w') : OwnI B w' v q := by
  refine ⟨h.1, ?_⟩
  rcases h.2 with hn | ⟨g, cap, cur, rfl, h1, h2, h3⟩
  · exact .inl hn
  · exact .inr ⟨g, cap, cur, rfl, h1, by rw [hb.block _ (Array.getElem?_eq_some_iff.1 h2).1]; exact h2, h3⟩
/-- A list of numbers that no step turns. -/
structure NumK (g o : Nat) (w : World) (v : Value) (q : List Int) : Prop where
  nums : Nums w v q
  kept : ∀ b off n c, 0 < q.length → v = .slice (some ⟨b, off, none⟩) n c → Kept g o w b
theorem NumK.step {g o : Nat} {w w' : World} {v : Value} {q : List Int} (h : NumK g o w v q) (hs : Stp g o w w') : NumK g o w' v q := by
  refine ⟨?_, fun b off n c h0 e => (hs.kept (h.kept b off n c h0 e)).1⟩
  obtain ⟨av, cap, rfl, hl, hm, hc⟩ := h.nums
  refine ⟨av, cap, rfl, hl, hm, fun h0 => ?_⟩
  obtain ⟨b, off, rfl, hcell⟩ := hc h0
  refine ⟨b, off, rfl, fun i hi => ?_⟩
  have := (hs.kept (h.kept b off _ _ h0 rfl)).2
  rw [← hcell i hi]
  simp only [World.cell?, this]
theorem numk_own {T : TypeId} {pre : List Value} {w0 w w' : World} {L : Ld} {Es : List Ev} {v : Value} {q : List Int} (hS : Sn T pre w0 L Es w) (hb : Below w.heap.size w w') (ho : OwnI w.heap.size w' v q) : NumK w0.heap.size (165 + pre.length) w' v q := by
  refine ⟨ho.nums, fun b off n c h0 e => ?_⟩
  subst e
  have := ho.lt b rfl
  exact hS.kept hb this.1 this.2
theorem NumK.cell {g o : Nat} {w : World} {v : Value} {q : List Int} (h : NumK g o w v q) {k : Nat} (hk : k < q.length) : ∃ b off cap, v = .slice (some ⟨b, off, none⟩) q.length cap ∧ w.cell? ⟨b, off + k, none⟩ = some (.int .i64 (q.getD k 0)) := by
  obtain ⟨b, off, cap, e, _, _, hc⟩ := h.nums.some (by omega)
  exact ⟨b, off, cap, e, hc k hk⟩
theorem NumK.shape {g o : Nat} {w : World} {v : Value} {q : List Int} (h : NumK g o w v q) : ∃ (av : Option Addr) (cap : Nat), v = .slice av q.length cap := by
  obtain ⟨av, cap, e, _⟩ := h.nums; exact ⟨av, cap, e⟩

set_option maxHeartbeats 1000000 in
theorem rhand_any {w0 : World} {L : Ld} {Es : List Ev} {w : World} (hS : Sn 54 [] w0 L Es w) (b : Nat) :
    Calls Tryd.prog 37 #[.pointer (some ⟨w0.heap.size, 0, none⟩), .int .i64 (b : Int)] w fun e w' => ∃ v, e = .returned v ∧ OwnI w.heap.size w' v (handL L b) ∧ Below w.heap.size w w' := by
  have HS := hide hS
  clear hS
  go_enter Tryd.func37, Tryd.ntmps37
  go_wp2_with (refine wl_scene (.tmp 7) rfl rfl rfl HS.out ?_)
  refine (has_own L 1 (b : Int) _).mono ?_
  rintro e w1 ⟨v, rfl, ho, hb⟩
  have A := hide (OwnI.base (show OwnI _ _ _ _ from ho) (Nat.le_succ _))
  have B := hide hb
  obtain ⟨av, cap, rfl⟩ := own_shapeN ho
  clear ho hb
  go_wp2
  go_ret
  exact ⟨_, rfl, A.out, B.out⟩

set_option maxHeartbeats 1000000 in
theorem sight_any {w0 : World} {L : Ld} {Es : List Ev} {w : World} (hS : Sn 54 [] w0 L Es w) (b : Nat) (hb : b < 6) :
    Calls Tryd.prog 51 #[.pointer (some ⟨w0.heap.size, 0, none⟩), .int .i64 (b : Int)] w fun e w' => ∃ v, e = .returned v ∧ OwnI w.heap.size w' v (sightL L b) ∧ Below w.heap.size w w' := by
  have HS := hide hS
  have c3 := hS.being b 3 hb (by omega)
  simp only [Ld.beingCell] at c3
  clear hS
  go_enter Tryd.func51, Tryd.ntmps51
  go_wp2_with (refine wl_scene (.tmp 16) rfl rfl rfl HS.out ?_)
  refine (bright_any L (L.room b) _).mono ?_
  rintro e w1 ⟨rfl, hb1⟩
  have S1 := hide (HS.out.below hb1)
  have B1 := hide hb1
  clear hb1 c3
  cases hx : brightL L (L.room b) with
  | false =>
    have HV := hide (show sightL L b = [] by unfold sightL; rw [if_neg (by simp [hx])])
    clear hx
    go_wp2
    go_ret
    exact ⟨_, rfl, by rw [HV.out]; exact ownI_nil _ _, B1.out⟩
  | true =>
    have HV := hide (show sightL L b = hasK L 0 (L.room b) 9 by unfold sightL; rw [if_pos hx])
    clear hx
    go_wp2_with (refine wl_scene (.tmp 23) rfl rfl rfl S1.out ?_)
    refine (has_own L 0 (L.room b) _).mono ?_
    rintro e w2 ⟨v, rfl, ho, hb2⟩
    have A := hide (OwnI.base (show OwnI _ _ _ _ from ho) (show w.heap.size ≤ w1.heap.size + 1 by have := B1.out.size; omega))
    have B2 := hide (B1.out.trans (hb2.mono B1.out.size))
    obtain ⟨av, cap, rfl⟩ := own_shapeN ho
    clear ho hb2
    go_wp2
    go_ret
    exact ⟨_, rfl, by rw [HV.out]; exact A.out, B2.out⟩

set_option maxHeartbeats 1000000 in
theorem seesOther_any {w0 : World} {L : Ld} {Es : List Ev} {w : World} (hS : Sn 54 [] w0 L Es w) (b c : Nat) :
    Calls Tryd.prog 52 #[.pointer (some ⟨w0.heap.size, 0, none⟩), .int .i64 (b : Int), .int .i64 (c : Int)] w fun e w' => e = .returned (.bool (seesO L b c)) ∧ Below w.heap.size w w' := by
  have HS := hide hS
  clear hS
  by_cases hc : c = b
  · subst hc
    have HV := hide (show seesO L c c = false by simp [seesO])
    go_enter Tryd.func52, Tryd.ntmps52
    go_wp2
    go_ret
    exact ⟨ret_bool HV.out.symm, Below.refl _ _⟩
  · have hne : ((c : Int) != (b : Int)) = true := by simp; omega
    have HV := hide (show seesO L b c = seesL L (b : Int) (c : Int) by simp [seesO, hc])
    clear hc
    go_enter Tryd.func52, Tryd.ntmps52
    go_wp2_with (refine wl_scene (.tmp 13) rfl rfl rfl HS.out ?_)
    refine (sees_any L (b : Int) (c : Int) _).mono ?_
    rintro e w1 ⟨rfl, hb1⟩
    go_wp2
    go_ret
    exact ⟨ret_bool HV.out.symm, hb1⟩

theorem star_any (s : Bool) (w : World) : Calls Tryd.prog 62 #[.bool s] w fun e w' => e = .returned (.string (starT s)) ∧ w' = w := by
  cases s with
  | true =>
    go_enter Tryd.func62, Tryd.ntmps62
    go_wp2
    go_ret
    exact ⟨rfl, rfl⟩
  | false =>
    go_enter Tryd.func62, Tryd.ntmps62
    go_wp2
    go_ret
    exact ⟨rfl, rfl⟩
end Go.Proofs.YtjkbmgjbmdcciafDoor
