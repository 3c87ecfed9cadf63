/-
  The contract of the document's own NounOf.
-/
import Derived.Test.YtfbgaimjjfmfaacDoorWdGenS
import Derived.Test.YtfbgaimjjfmfaacDoorWdNoun
import Derived.Test.YtfbgaimjjfmfaacDoorWdLow
namespace Go.Proofs.YtfbgaimjjfmfaacDoor
open Go.RowKit
set_option linter.unusedVariables false

theorem dots_ne (c : UInt8) (l : List UInt8) : dotsL c l ≠ [] := fun e => by
  have := dots_len c l; rw [e] at this; simp at this
theorem dots1 {c : UInt8} {l x : List UInt8} (h : dotsL c l = [x]) : x = l ∧ c ∉ l ∧ (cutL c l).2.2 = false := by
  have hc := dots_len c l
  rw [h] at hc
  simp at hc
  rw [dots_cut] at h
  cases hd : (cutL c l).2.2
  · rw [hd] at h; simp at h; exact ⟨h.symm, List.count_eq_zero.1 hc, rfl⟩
  · rw [hd] at h
    simp at h
    exact absurd h.2 (dots_ne _ _)
theorem dots2 {c : UInt8} {l A B : List UInt8} (h : dotsL c l = [A, B]) : (cutL c l).2.2 = true ∧ (cutL c l).1 = A ∧ (cutL c l).2.1 = B ∧ c ∉ B := by
  rw [dots_cut] at h
  cases hd : (cutL c l).2.2
  · rw [hd] at h; simp at h
  · rw [hd] at h
    simp at h
    obtain ⟨h1, h2, _⟩ := dots1 h.2
    exact ⟨rfl, h.1, h1.symm, by rw [h1]; exact h2⟩
theorem dots3 {c : UInt8} {l A B C : List UInt8} {r : List (List UInt8)} (h : dotsL c l = A :: B :: C :: r) : (cutL c l).2.2 = true ∧ c ∈ (cutL c l).2.1 := by
  rw [dots_cut] at h
  cases hd : (cutL c l).2.2
  · rw [hd] at h; simp at h
  · rw [hd] at h
    simp at h
    have hc := dots_len c (cutL c l).2.1
    rw [h.2] at hc
    simp at hc
    refine ⟨rfl, List.count_pos_iff.1 (by omega)⟩

theorem noun1 {l : List UInt8} {x : List UInt8} (h : dotsL 46 l = [x]) (ha : ¬ l = allW) (hne : ¬ l = []) : nounL l = some (1, l, false) := by
  obtain ⟨_, h2, h3⟩ := dots1 h
  have ha' : ¬ l = [97, 108, 108] := ha
  simp [nounL, ha', h3, nounT, hne, h2, allW, numL]
theorem noun0 : nounL [] = none := rfl
theorem noun2 {l A B : List UInt8} (h : dotsL 46 l = [A, B]) (ha : ¬ l = allW) : nounL l = if B = [] then none else if A = allW then some (1, B, true) else match numL A with | some n => some (n, B, false) | none => none := by
  obtain ⟨h1, h2, h3, h4⟩ := dots2 h
  simp only [nounL, if_neg ha, h1, if_true, h2, h3, nounT]
  by_cases hB : B = []
  · simp [hB]
  · by_cases hA : A = allW
    · simp [hB, h4, hA]
    · simp only [hB, h4, hA, or_self, if_false]
      cases numL A <;> rfl
theorem noun3 {l A B C : List UInt8} {r : List (List UInt8)} (h : dotsL 46 l = A :: B :: C :: r) (ha : ¬ l = allW) : nounL l = none := by
  obtain ⟨h1, h2⟩ := dots3 h
  simp [nounL, ha, h1, nounT, h2]

theorem split_all (s : ByteArray) (w : World) (hs : s.size ≤ 8796093022207) (ha : (s.toList == [97, 108, 108]) = true) :
    Calls Tryd.prog 14 #[.string s] w fun e w' => e = .returned (nounA (nounL s.data.toList)) ∧ Below w.heap.size w w' := by
  have HT := hide (show nounL s.data.toList = some (1, [], true) by
    have : s.data.toList = allW := by rw [Lib.toList_data] at ha; simpa [allW] using ha
    simp [nounL, this])
  go_enter Tryd.func14, Tryd.ntmps14
  go_wp2_with fail
  refine (dots_any s 46 _ hs).mono ?_
  rintro e w1 ⟨v, rfl, hr, hb⟩
  clear hr
  replace hb := hide hb
  go_wp2
  refine bodyPost_ret (res4 rfl rfl rfl rfl rfl) rfl ?_
  exact ⟨ret_any (by rw [HT.out]; rfl), hb.out⟩

set_option maxHeartbeats 4000000 in
set_option maxRecDepth 100000 in
theorem refnoun_short (s : ByteArray) (w : World) (hs : s.size ≤ 8796093022207) (ha : (s.toList == [97, 108, 108]) = false) (x : List UInt8) (hD : dotsL 46 s.data.toList = [x]) :
    Calls Tryd.prog 14 #[.string s] w fun e w' => e = .returned (nounA (nounL s.data.toList)) ∧ Below w.heap.size w w' := by
  have hna : ¬ s.data.toList = allW := by
    intro e; rw [Lib.toList_data, e] at ha; simp [allW] at ha
  have C1 := hide (fun w' => dots_any s 46 w' hs)
  rw [hD] at C1
  cases he : s.toList.isEmpty
  · have hne : ¬ s.data.toList = [] := by intro e; rw [Lib.toList_data, e] at he; simp at he
    have HT := hide (noun1 hD hna hne)
    clear hD hna hne
    go_enter Tryd.func14, Tryd.ntmps14
    go_wp2_with fail
    refine (C1.out _).mono ?_
    rintro e w1 ⟨v, rfl, hr, hb⟩
    obtain ⟨av, cap, rfl, hl, hm⟩ := hr.shape
    clear hr
    replace hb := hide hb
    go_wp2
    refine bodyPost_ret (res4 rfl rfl rfl rfl rfl) rfl ?_
    exact ⟨ret_any (by rw [HT.out]; show _ = Value.tuple _; rw [bs_of]; rfl), hb.out⟩
  · have HT := hide (show nounL s.data.toList = none by rw [isEmpty_nil' he]; rfl)
    clear hD hna
    go_enter Tryd.func14, Tryd.ntmps14
    go_wp2_with fail
    refine (C1.out _).mono ?_
    rintro e w1 ⟨v, rfl, hr, hb⟩
    obtain ⟨av, cap, rfl, hl, hm⟩ := hr.shape
    clear hr
    replace hb := hide hb
    go_wp2
    refine bodyPost_ret (res4 rfl rfl rfl rfl rfl) rfl ?_
    exact ⟨ret_any (by rw [HT.out]; rfl), hb.out⟩

set_option maxHeartbeats 4000000 in
set_option maxRecDepth 100000 in
theorem refnoun_long (s : ByteArray) (w : World) (hs : s.size ≤ 8796093022207) (ha : (s.toList == [97, 108, 108]) = false) (A B C : List UInt8) (r : List (List UInt8)) (hD : dotsL 46 s.data.toList = A :: B :: C :: r) :
    Calls Tryd.prog 14 #[.string s] w fun e w' => e = .returned (nounA (nounL s.data.toList)) ∧ Below w.heap.size w w' := by
  have hna : ¬ s.data.toList = allW := by
    intro e; rw [Lib.toList_data, e] at ha; simp [allW] at ha
  have C1 := hide (fun w' => dots_any s 46 w' hs)
  rw [hD] at C1
  have HT := hide (noun3 hD hna)
  clear hD hna
  go_enter Tryd.func14, Tryd.ntmps14
  go_wp2_with fail
  refine (C1.out _).mono ?_
  rintro e w1 ⟨v, rfl, hr, hb⟩
  obtain ⟨av, cap, rfl, hl, hm⟩ := hr.shape
  have hlen : (A :: B :: C :: r).length = r.length + 3 := rfl
  rw [hlen] at hl ⊢
  clear hr hlen
  generalize r.length = m at hl
  have b1 : (((m + 3 : Nat) : Int) == 1) = false := by simp; omega
  have b2 : (((m + 3 : Nat) : Int) != 2) = true := by simp; omega
  replace hb := hide hb
  go_wp2
  refine bodyPost_ret (res4 rfl rfl rfl rfl rfl) rfl ?_
  exact ⟨ret_any (by rw [HT.out]; rfl), hb.out⟩

/-- The list of two, in memory. -/
theorem two_cells {w : World} {v : Value} {A B : List UInt8} (h : Rd w v [A, B]) : ∃ b off cap, v = .slice (some ⟨b, off, none⟩) 2 cap ∧ 2 ≤ cap ∧ cap ≤ maxLen ∧ w.cell? ⟨b, off, none⟩ = some (.string (bs A)) ∧ w.cell? ⟨b, off + 1, none⟩ = some (.string (bs B)) := by
  obtain ⟨b, off, cap, rfl, hl, hm, c0, ht⟩ := h.cons
  simp only [List.length_cons, List.length_nil] at hl
  rw [if_neg (by omega)] at ht
  obtain ⟨b', off', cap', e, _, _, c1, _⟩ := ht.cons
  injection e with f1; injection f1 with f1; injection f1 with f4 f5
  subst f4 f5
  exact ⟨b, off, cap, rfl, by omega, hm, c0, c1⟩

set_option maxHeartbeats 4000000 in
set_option maxRecDepth 100000 in
theorem refnoun_two (s : ByteArray) (w : World) (hs : s.size ≤ 8796093022207) (ha : (s.toList == [97, 108, 108]) = false) (A B : List UInt8) (hD : dotsL 46 s.data.toList = [A, B]) (hx : B = [] ∨ (B ≠ [] ∧ A = allW)) :
    Calls Tryd.prog 14 #[.string s] w fun e w' => e = .returned (nounA (nounL s.data.toList)) ∧ Below w.heap.size w w' := by
  have hna : ¬ s.data.toList = allW := by
    intro e; rw [Lib.toList_data, e] at ha; simp [allW] at ha
  have C1 := hide (fun w' => dots_any s 46 w' hs)
  rw [hD] at C1
  have hn := noun2 hD hna
  have hbt := bs_toList
  clear hD hna
  rcases hx with hB | ⟨hB, hA⟩
  · rw [if_pos hB] at hn
    have HT := hide hn
    have hBe : B.isEmpty = true := by rw [hB]; rfl
    clear hn hB
    go_enter Tryd.func14, Tryd.ntmps14
    go_wp2_with fail
    refine (C1.out _).mono ?_
    rintro e w1 ⟨v, rfl, hr, hb⟩
    obtain ⟨b, off, cap, rfl, hl, hm, c0, c1⟩ := two_cells hr
    clear hr
    replace hb := hide hb
    go_wp2
    refine bodyPost_ret (res4 rfl rfl rfl rfl rfl) rfl ?_
    exact ⟨ret_any (by rw [HT.out]; rfl), hb.out⟩
  · rw [if_neg hB, if_pos hA] at hn
    have HT := hide hn
    have hBe : B.isEmpty = false := by cases B with | nil => exact absurd rfl hB | cons _ _ => rfl
    have hAe : (A == [97, 108, 108]) = true := by rw [hA]; rfl
    clear hn hB hA
    go_enter Tryd.func14, Tryd.ntmps14
    go_wp2_with fail
    refine (C1.out _).mono ?_
    rintro e w1 ⟨v, rfl, hr, hb⟩
    obtain ⟨b, off, cap, rfl, hl, hm, c0, c1⟩ := two_cells hr
    clear hr
    replace hb := hide hb
    go_wp2
    go_region
    all_goals go_wp2
    all_goals refine bodyPost_ret (res4 rfl rfl rfl rfl rfl) rfl ?_
    all_goals exact ⟨ret_any (by rw [HT.out]; rfl), below_drewN hb.out 1⟩
end Go.Proofs.YtfbgaimjjfmfaacDoor
