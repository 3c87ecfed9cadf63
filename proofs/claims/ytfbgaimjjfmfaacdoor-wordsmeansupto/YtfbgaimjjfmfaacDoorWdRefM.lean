/-
  The contract of the document's own NounOf, where there is a number.
-/
import Derived.Test.YtfbgaimjjfmfaacDoorWdRefN
namespace Go.Proofs.YtfbgaimjjfmfaacDoor
open Go.RowKit
set_option linter.unusedVariables false

/-- What k bytes of a number come to. -/
def NumK (A : List UInt8) (k N : Nat) : Prop :=
  (k = 0 ∧ N = 0) ∨ (k = 1 ∧ ∃ a, A[0]? = some a ∧ 49 ≤ a.toNat ∧ a.toNat ≤ 57 ∧ N = a.toNat - 48) ∨
  (k = 2 ∧ ∃ a b, A[0]? = some a ∧ A[1]? = some b ∧ 49 ≤ a.toNat ∧ a.toNat ≤ 57 ∧ 48 ≤ b.toNat ∧ b.toNat ≤ 57 ∧ N = (a.toNat - 48) * 10 + (b.toNat - 48))

theorem num_bad0 {a : UInt8} {r : List UInt8} (h : ¬ (49 ≤ a.toNat ∧ a.toNat ≤ 57)) : numL (a :: r) = none := by
  match r with
  | [] => simp [numL, h]
  | [b] =>
    have : ¬ (49 ≤ a.toNat ∧ a.toNat ≤ 57 ∧ 48 ≤ b.toNat ∧ b.toNat ≤ 57) := fun h' => h ⟨h'.1, h'.2.1⟩
    simp [numL, this]
  | b :: c :: r => rfl
theorem num_bad1 {a b : UInt8} {r : List UInt8} (h : ¬ (48 ≤ b.toNat ∧ b.toNat ≤ 57)) : numL (a :: b :: r) = none := by
  match r with
  | [] =>
    have : ¬ (49 ≤ a.toNat ∧ a.toNat ≤ 57 ∧ 48 ≤ b.toNat ∧ b.toNat ≤ 57) := fun h' => h h'.2.2
    simp [numL, this]
  | c :: r => rfl
theorem num_bad2 {A : List UInt8} (h : 2 < A.length) : numL A = none := by
  match A, h with
  | a :: b :: c :: r, _ => rfl
theorem num_bad {A : List UInt8} {k N : Nat} (h : NumK A k N) (hk : k < A.length) (hb : (A[k].toNat < 48 ∨ 57 < A[k].toNat) ∨ (k = 0 ∧ A[k].toNat = 48) ∨ 1 < k) : numL A = none := by
  rcases h with ⟨rfl, rfl⟩ | ⟨rfl, a, ha, h1, h2, rfl⟩ | ⟨rfl, _⟩
  · match A, hk with
    | a :: r, _ => exact num_bad0 (by simp at hb; omega)
  · match A, hk with
    | a :: b :: r, _ => exact num_bad1 (by simp at hb; omega)
  · exact num_bad2 hk
theorem num_next {A : List UInt8} {k N : Nat} (h : NumK A k N) (hk : k < A.length) (h1 : 48 ≤ A[k].toNat) (h2 : A[k].toNat ≤ 57) (h3 : k = 0 → A[k].toNat ≠ 48) (h4 : k ≤ 1) : NumK A (k + 1) (10 * N + (A[k].toNat - 48)) := by
  rcases h with ⟨rfl, rfl⟩ | ⟨rfl, a, ha, h5, h6, rfl⟩ | ⟨rfl, _⟩
  · exact .inr (.inl ⟨rfl, A[0], by simp, by have := h3 rfl; omega, h2, by omega⟩)
  · exact .inr (.inr ⟨rfl, a, A[1], ha, by simp, h5, h6, h1, h2, by omega⟩)
  · omega
theorem num_end {A : List UInt8} {k N : Nat} (h : NumK A k N) (hk : k = A.length) : (N = 0 ∧ numL A = none) ∨ (N ≠ 0 ∧ numL A = some N) := by
  rcases h with ⟨rfl, rfl⟩ | ⟨rfl, a, ha, h1, h2, rfl⟩ | ⟨rfl, a, b, ha, hb, h1, h2, h3, h4, rfl⟩
  · have : A = [] := List.eq_nil_of_length_eq_zero hk.symm
    subst this
    exact .inl ⟨rfl, rfl⟩
  · match A, hk with
    | [x], _ =>
      simp at ha; subst ha
      exact .inr ⟨by omega, by simp [numL, h1, h2]⟩
  · match A, hk with
    | [x, y], _ =>
      simp at ha hb; subst ha hb
      exact .inr ⟨by omega, by simp [numL, h1, h2, h3, h4]⟩
theorem num_small {A : List UInt8} {k N : Nat} (h : NumK A k N) : k ≤ 2 ∧ N ≤ 99 := by
  rcases h with ⟨rfl, rfl⟩ | ⟨rfl, a, ha, h1, h2, rfl⟩ | ⟨rfl, a, b, ha, hb, h1, h2, h3, h4, rfl⟩ <;> omega

set_option maxHeartbeats 8000000 in
set_option maxRecDepth 100000 in
theorem refnoun_num (s : ByteArray) (w : World) (hs : s.size ≤ 8796093022207) (ha : (s.toList == [97, 108, 108]) = false) (A B : List UInt8) (hD : dotsL 46 s.data.toList = [A, B]) (hB : B ≠ []) (hA : ¬ A = allW) :
    Calls Tryd.prog 14 #[.string s] w fun e w' => e = .returned (nounA (nounL s.data.toList)) ∧ Below w.heap.size w w' := by
  have hna : ¬ s.data.toList = allW := by
    intro e; rw [Lib.toList_data, e] at ha; simp [allW] at ha
  have C1 := hide (fun w' => dots_any s 46 w' hs)
  rw [hD] at C1
  have hn := noun2 hD hna
  rw [if_neg hB, if_neg hA] at hn
  have HT := hide hn
  have hbt := bs_toList
  have hBe : B.isEmpty = false := by cases B with | nil => exact absurd rfl hB | cons _ _ => rfl
  have hAe : (A == [97, 108, 108]) = false := by
    cases h : (A == [97, 108, 108]) with
    | false => rfl
    | true => exact absurd (by simpa [allW] using h) hA
  have hAs : A.length ≤ s.size := by
    obtain ⟨_, h2, _, _⟩ := dots2 hD
    have := cut_len 46 s.data.toList
    rw [h2, size_len] at this; omega
  clear hn hB hA hD hna
  go_enter Tryd.func14, Tryd.ntmps14
  go_wp2_with fail
  refine (C1.out _).mono ?_
  rintro e w1 ⟨v, rfl, hr, hb⟩
  obtain ⟨b, off, cap, rfl, hl, hm, c0, c1⟩ := two_cells hr
  have hblt : b < w1.heap.size := cell_lt c1
  obtain ⟨cap', o, hconv, hlo⟩ := conv_made (bs A) w1
  rw [bs_data] at hlo
  have hsz : (bs A).size = A.length := bs_size A
  rw [hsz] at hconv
  have HL := hide hlo
  have c1' : Hid ((w1.drew.alloc o).cell? ⟨b, off + 1, none⟩ = some (.string (bs B))) := by
    show (w1.drew.alloc o).cell? ⟨b, off + 1, none⟩ = _
    rw [hlo.below.cell (p := ⟨b, off + 1, none⟩) hblt]; exact c1
  have HB := hide (hb.trans (hlo.below.mono hb.size))
  clear hr hb hlo
  go_wp2
  clear hconv c0 c1
  go_loopw [7, 8, 9, 47] (fun nv _ _ iv wr => ∃ k N : Nat, k ≤ A.length ∧ iv = .int .i64 k ∧ nv = .int .i64 N ∧ Hid (NumK A k N) ∧ Lo w1 w1.heap.size A wr ∧ wr.cell? ⟨b, off + 1, none⟩ = some (.string (bs B)) ∧ Below w.heap.size w wr) (fun _ _ _ iv _ => A.length - (intOf iv).toNat)
  case atStart => exact ⟨0, 0, Nat.zero_le _, rfl, rfl, .inl ⟨rfl, rfl⟩, HL.out, c1'.out, HB.out⟩
  case round =>
    obtain ⟨k, N, hk, rfl, rfl, HN, hlo, c1, hb⟩ := hrel
    obtain ⟨hk2, hN99⟩ := num_small HN.out
    by_cases hlt : k < A.length
    · have d1 := hlo.cell k hlt
      obtain ⟨cv, hcv⟩ : ∃ cv : Nat, cv = (A[k]).toNat := ⟨_, rfl⟩
      rw [← hcv] at d1
      have hc256 : cv < 256 := by rw [hcv]; exact (A[k]).toNat_lt
      have HC := hide hcv
      have HLo := hide hlo
      have HBl := hide hb
      clear hcv hlo hb
      by_cases g1 : cv < 48
      · have HX := hide (num_bad HN.out hlt (.inl (.inl (by rw [← HC.out]; exact g1))))
        go_wp2
        refine bodyPost_ret (res4 rfl rfl rfl rfl rfl) rfl ?_
        exact ⟨ret_any (by rw [HT.out, HX.out]; rfl), HBl.out⟩
      by_cases g2 : 57 < cv
      · have HX := hide (num_bad HN.out hlt (.inl (.inr (by rw [← HC.out]; exact g2))))
        go_wp2
        refine bodyPost_ret (res4 rfl rfl rfl rfl rfl) rfl ?_
        exact ⟨ret_any (by rw [HT.out, HX.out]; rfl), HBl.out⟩
      by_cases g3 : k = 0 ∧ cv = 48
      · obtain ⟨rfl, g4⟩ := g3
        have HX := hide (num_bad HN.out hlt (.inr (.inl ⟨rfl, by rw [← HC.out]; exact g4⟩)))
        have gb : ((cv : Int) == 48) = true := by rw [g4]; rfl
        clear g4
        go_wp2
        refine bodyPost_ret (res4 rfl rfl rfl rfl rfl) rfl ?_
        exact ⟨ret_any (by rw [HT.out, HX.out]; rfl), HBl.out⟩
      by_cases g5 : 1 < k
      · have HX := hide (num_bad HN.out hlt (.inr (.inr g5)))
        have gb : ((k : Int) == 0) = false := by simp; omega
        go_wp2
        refine bodyPost_ret (res4 rfl rfl rfl rfl rfl) rfl ?_
        exact ⟨ret_any (by rw [HT.out, HX.out]; rfl), HBl.out⟩
      · have HX := hide (num_next HN.out hlt (by rw [← HC.out]; omega) (by rw [← HC.out]; omega) (fun e => by rw [← HC.out]; exact fun e2 => g3 ⟨e, e2⟩) (by omega))
        rw [← HC.out] at HX
        have e10 : ((10 * N + (cv - 48) : Nat) : Int) = 10 * (N : Int) + ((cv : Int) - 48) := by omega
        replace e10 := hide e10
        by_cases hk0 : k = 0
        · subst hk0
          have gb : ((cv : Int) == 48) = false := by simp; omega
          clear g3
          go_wp2
          exact ⟨⟨0 + 1, 10 * N + (cv - 48), by omega, by go_num, by rw [e10.out], HX.out, HLo.out, c1, HBl.out⟩, by simp [intOf]; omega⟩
        · have gb : ((k : Int) == 0) = false := by simp; omega
          clear g3
          go_wp2
          exact ⟨⟨k + 1, 10 * N + (cv - 48), by omega, by go_num, by rw [e10.out], HX.out, HLo.out, c1, HBl.out⟩, by simp [intOf]; omega⟩
    · have HLo := hide hlo
      have HBl := hide hb
      clear hlo hb
      rcases num_end HN.out (by omega) with ⟨hz, hx⟩ | ⟨hz, hx⟩
      · subst hz
        have HX := hide hx
        clear hx
        go_wp2
        refine bodyPost_ret (res4 rfl rfl rfl rfl rfl) rfl ?_
        exact ⟨ret_any (by rw [HT.out, HX.out]; rfl), HBl.out⟩
      · have HX := hide hx
        have gz : ((N : Int) == 0) = false := by simp; omega
        clear hx hz
        go_wp2
        go_region
        all_goals go_wp2
        all_goals refine bodyPost_ret (res4 rfl rfl rfl rfl rfl) rfl ?_
        all_goals exact ⟨ret_any (by rw [HT.out, HX.out]; rfl), below_drewN HBl.out 1⟩

theorem refnoun_any (s : ByteArray) (w : World) (hs : s.size ≤ 8796093022207) :
    Calls Tryd.prog 14 #[.string s] w fun e w' => e = .returned (nounA (nounL s.data.toList)) ∧ Below w.heap.size w w' := by
  cases ha : (s.toList == [97, 108, 108])
  · match hD : dotsL 46 s.data.toList with
    | [] => exact absurd hD (dots_ne _ _)
    | [x] => exact refnoun_short s w hs ha x hD
    | [A, B] =>
      by_cases hB : B = []
      · exact refnoun_two s w hs ha A B hD (.inl hB)
      by_cases hA : A = allW
      · exact refnoun_two s w hs ha A B hD (.inr ⟨hB, hA⟩)
      · exact refnoun_num s w hs ha A B hD hB hA
    | A :: B :: C :: r => exact refnoun_long s w hs ha A B C r hD
  · exact split_all s w hs ha
end Go.Proofs.YtfbgaimjjfmfaacDoor
