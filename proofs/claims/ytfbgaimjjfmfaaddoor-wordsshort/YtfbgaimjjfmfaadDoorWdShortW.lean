/-
  WordsShort's walk.
-/
import Derived.Test.YtfbgaimjjfmfaadDoorWdParse
namespace Go.Proofs.YtfbgaimjjfmfaadDoor
open Go.RowKit
set_option linter.unusedVariables false

theorem prefix_trans {p w v : List UInt8} (h1 : p <+: w) (h2 : w.isPrefixOf v = true) : p.isPrefixOf v = true :=
  List.isPrefixOf_iff_prefix.2 (h1.trans (List.isPrefixOf_iff_prefix.1 h2))

/-- A shorter beginning means that verb or an earlier one. -/
theorem verb_short {w p : List UInt8} {v : Nat} (h : verbL w = some v) (hp : p <+: w) (hne : p ≠ []) : ∃ u, verbL p = some u ∧ u ≤ v := by
  unfold verbL at h ⊢
  by_cases hw : w = []
  · rw [if_pos hw] at h; cases h
  rw [if_neg hw] at h
  rw [if_neg hne]
  obtain ⟨hv, hb, _⟩ := List.findIdx?_eq_some_iff_getElem.1 h
  cases hq : verbs.findIdx? (fun v => p.isPrefixOf v) with
  | none =>
    rw [List.findIdx?_eq_none_iff] at hq
    have := hq (verbs[v]) (List.getElem_mem hv)
    rw [prefix_trans hp hb] at this; cases this
  | some u =>
    obtain ⟨hu, _, hmin⟩ := List.findIdx?_eq_some_iff_getElem.1 hq
    refine ⟨u, rfl, ?_⟩
    by_cases hlt : v < u
    · have := hmin v hlt
      rw [prefix_trans hp hb] at this; simp at this
    · omega

theorem pick_any (k n : Int) (w : World) (hk : -9223372036854775808 ≤ k) (hk' : k ≤ 9223372036854775807) (hn : 0 < n) (hn' : n ≤ 9223372036854775807) :
    Calls Tryd.prog 8 #[.int .i64 k, .int .i64 n] w fun e w' => (∃ r : Nat, (r : Int) < n ∧ e = .returned (.int .i64 r)) ∧ w' = w := by
  have h0 : (n == 0) = false := by simp; omega
  go_enter Tryd.func8, Tryd.ntmps8
  go_wp2
  all_goals go_ret
  all_goals have h1 := Int.tmod_lt_of_pos k hn
  all_goals have h2 := Int.lt_tmod_of_pos k hn
  · refine ⟨⟨(k.tmod n + n).toNat, by omega, ?_⟩, rfl⟩
    rw [show wrap64 (k.tmod n + n) = ((k.tmod n + n).toNat : Int) by unfold wrap64; omega]
    rfl
  · refine ⟨⟨(k.tmod n).toNat, by omega, ?_⟩, rfl⟩
    rw [show ((k.tmod n).toNat : Int) = k.tmod n by omega]
    rfl

set_option maxHeartbeats 2000000 in
set_option maxRecDepth 100000 in
theorem short_walk (s : ByteArray) (n : Int) (w : World) (hs : s.size ≤ 140737488355328) (h1 : -9223372036854775808 ≤ n) (h2 : n ≤ 9223372036854775807) (hv : Vb w) :
    Calls Tryd.prog 3 #[.string s, .int .i64 n] w fun e w' => e = .returned (.bool true) ∧ Below w.heap.size w w' := by
  have hv0 := hide hv
  clear hv
  cases hx : verbL s.data.toList with
  | none =>
    have HX := hide (verbA_none hx)
    clear hx
    go_enter Tryd.func3, Tryd.ntmps3
    go_wp2_with fail
    refine (verb_any s _ hv0.out).mono ?_
    rintro e w1 ⟨rfl, rfl⟩
    rw [HX.out]
    go_wp2_with fail
    refine (means_any _ hv0.out).mono ?_
    rintro e w2 ⟨rfl, hb2⟩
    go_wp2
    go_ret
    exact ⟨rfl, hb2⟩
  | some v =>
    have HX := hide (verbA_some hx)
    have hv21 := verb_lt hx
    have hpos : 0 < s.size := by
      rw [← size_len]
      cases h : s.data.toList with
      | nil => rw [h] at hx; simp [verbL] at hx
      | cons a r => simp
    have HS : Hid (∀ r : Nat, r < s.size → ∃ u : Nat, verbA (s.extract 0 (1 + r)).data.toList = ((u : Int), 0) ∧ u ≤ v) := by
      intro r hr
      rw [extract_upto, bs_data]
      obtain ⟨u, hu, hle⟩ := verb_short hx (List.take_prefix (1 + r) s.data.toList) (by
        intro e
        have := congrArg List.length e
        rw [List.length_take, size_len, List.length_nil] at this
        omega)
      exact ⟨u, verbA_some hu, hle⟩
    clear hx
    go_enter Tryd.func3, Tryd.ntmps3
    go_wp2_with fail
    refine (verb_any s _ hv0.out).mono ?_
    rintro e w1 ⟨rfl, rfl⟩
    rw [HX.out]
    go_wp2_with fail
    refine (means_any _ hv0.out).mono ?_
    rintro e w2 ⟨rfl, hb2⟩
    have hv2 := hide (hv0.out.below hb2 (Nat.le_refl _))
    go_wp2_with fail
    refine (pick_any _ _ _ h1 h2 (by omega) (by omega)).mono ?_
    rintro e w3 ⟨⟨r, hr, rfl⟩, rfl⟩
    have hr' : r < s.size := by omega
    obtain ⟨u, hu, hle⟩ := HS.out r hr'
    have HU := hide hu
    clear hu
    go_wp2_with fail
    refine (verb_any _ _ hv2.out).mono ?_
    rintro e w4 ⟨rfl, rfl⟩
    rw [HU.out]
    go_wp2
    all_goals go_ret
    all_goals first | exact ⟨rfl, hb2⟩ | (refine ⟨ret_bool ?_, hb2⟩; simp; omega)
end Go.Proofs.YtfbgaimjjfmfaadDoor
