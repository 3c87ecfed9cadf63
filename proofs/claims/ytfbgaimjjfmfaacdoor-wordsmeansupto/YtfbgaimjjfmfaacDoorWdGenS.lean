/-
  The contracts of strings.genSplit and Split at one byte.
-/
import Derived.Test.YtfbgaimjjfmfaacDoorWdDots
namespace Go.Proofs.YtfbgaimjjfmfaacDoor
open Go.RowKit
set_option linter.unusedVariables false

theorem row_made (w : World) (N : Nat) : Row w w.heap.size N [] (w.alloc (.cells (madeCells #[.string ⟨#[]⟩] N) 9)) :=
  ⟨Nat.le_refl _, (Below.refl _ _).alloc (Nat.le_refl _) _, _, heap_alloc_new w _, size_madeCells _ _, fun j hj => by simp at hj⟩

/-- As a round begins: q is done, t is left. -/
structure Gs (w : World) (c : UInt8) (l : List UInt8) (N : Nat) (t : ByteArray) (q : List (List UInt8)) (wr : World) : Prop where
  le : t.size ≤ l.length
  eq : q ++ dotsL c t.data.toList = dotsL c l
  num : (dotsL c l).length = N
  row : Row w w.heap.size N q wr

theorem Gs.few {w wr : World} {c : UInt8} {l : List UInt8} {N : Nat} {t : ByteArray} {q : List (List UInt8)} (h : Gs w c l N t q wr) : q.length + (t.data.toList.count c + 1) = N := by
  have h1 := congrArg List.length h.eq
  rw [List.length_append, h.num, dots_len] at h1
  exact h1

theorem idx_some {c : UInt8} {l : List UInt8} (h : 0 < l.count c) : ∃ i : Nat, Lib.indexByte l c = (i : Int) ∧ i < l.length := by
  have hm : c ∈ l := List.count_pos_iff.1 h
  have := idx_mem c l
  rw [decide_eq_true hm] at this
  have h0 : 0 ≤ Lib.indexByte l c := of_decide_eq_true this
  refine ⟨(Lib.indexByte l c).toNat, by omega, cut_bound c l _ (by omega)⟩
theorem idx_none {c : UInt8} {l : List UInt8} (h : l.count c = 0) : Lib.indexByte l c = -1 := by
  have hm : ¬ c ∈ l := fun hc => by have := List.count_pos_iff.2 hc; omega
  have := idx_mem c l
  rw [decide_eq_false hm] at this
  have h0 : ¬ 0 ≤ Lib.indexByte l c := of_decide_eq_false this
  have := Lib.indexByte_ge l c
  omega

set_option maxHeartbeats 4000000 in
set_option maxRecDepth 100000 in
theorem gen_any (s : ByteArray) (c : UInt8) (w : World) (hs : s.size ≤ 8796093022207) :
    Calls Tryd.prog 36 #[.string s, .string ⟨#[c]⟩, .int .i64 0, .int .i64 (-1)] w fun e w' => ∃ v, e = .returned v ∧ Rd w' v (dotsL c s.data.toList) ∧ Below w.heap.size w w' := by
  have hcnt : s.data.toList.count c ≤ s.size := by rw [← size_len]; exact List.count_le_length
  have HD := hide (dots_len c s.data.toList)
  have C1 := hide (fun w' => count_one s c w')
  generalize s.data.toList.count c = K at hcnt HD C1
  have ec : ((K + 1 : Nat) : Int) = (K : Int) + 1 := by omega
  have hmin : min ((K : Int) + 1) ((s.size : Int) + 1) = (K : Int) + 1 := by omega
  have hmk := run_make_row' (P := Tryd.prog) 28 9 (.string ⟨#[]⟩) 16 Tryd.underlying28 Tryd.info9 rfl .i64 .i64 (K + 1) (by omega) (by omega)
  rw [ec] at hmk
  have hl1 : ([c] : List UInt8).isEmpty = false := rfl
  clear ec
  go_enter Tryd.func36, Tryd.ntmps36
  go_wp2_with fail
  refine (C1.out _).mono ?_
  rintro e w ⟨rfl, rfl⟩
  go_wp2
  have HR := hide (row_made w (K + 1))
  clear hmk hmin C1
  generalize w.alloc (.cells (madeCells #[.string ⟨#[]⟩] (K + 1)) 9) = wa at HR ⊢
  go_loopw [0, 10, 11] (fun sv iv _ wr => ∃ (t : ByteArray) (q : List (List UInt8)), sv = .string t ∧ iv = .int .i64 (q.length : Int) ∧ Gs w c s.data.toList (K + 1) t q wr) (fun sv _ _ _ => strSize sv)
  case atStart => exact ⟨s, [], rfl, rfl, by rw [size_len]; exact Nat.le_refl _, rfl, HD.out, HR.out⟩
  case round =>
    obtain ⟨t, q, rfl, rfl, hG⟩ := hrel
    have hfew := hG.few
    have hle := hG.le
    rw [size_len] at hle
    obtain ⟨old, hcell⟩ := hG.row.some q.length (by omega)
    have hfz := hG.row.frozen q.length
    have HG := hide hG
    clear hG
    by_cases hlt : q.length < K
    · obtain ⟨i, hi, hib⟩ := idx_some (c := c) (l := t.data.toList) (by omega)
      rw [size_len] at hib
      have C2 := hide (fun w' => index_one t c w')
      rw [hi] at C2
      have HX := hide (dots_hit hi)
      have e1 := hide (extract_upto t i)
      have e2 := hide (extract_from t (i + 1))
      clear hi
      go_wp2_with fail
      refine (C2.out _).mono ?_
      rintro e w' ⟨rfl, rfl⟩
      go_wp2
      refine ⟨⟨_, q ++ [t.data.toList.take i], rfl, by simp, ?_, ?_, HD.out, HG.out.row.put _ (by rw [e1.out]) (by omega) rfl⟩, ?_⟩
      · rw [size_len, e2.out, bs_size, List.length_drop, size_len]; omega
      · rw [e2.out, bs_data, List.append_assoc, ← HG.out.eq, HX.out]; rfl
      · simp only [strSize, e2.out, bs_size, List.length_drop, size_len]; omega
    · have hq : q.length = K := by omega
      have hc0 : t.data.toList.count c = 0 := by omega
      have HX := hide (dots_miss (idx_none hc0))
      have HP := hide (HG.out.row.put (x := t.data.toList) (v := .string t) (by rw [bs_of]) (by omega) hq.symm)
      rw [hq] at hcell hfz
      clear hc0
      go_wp2
      go_ret
      refine ⟨_, rfl, ?_, HP.out.below⟩
      have e : q ++ [t.data.toList] = dotsL c s.data.toList := by rw [← HG.out.eq, HX.out]
      rw [← e]
      have hl : (q ++ [t.data.toList]).length = K + 1 := by simp [hq]
      have := HP.out
      rw [← hl] at this
      have hr := this.reads (by rw [hl]; unfold maxLen; omega)
      rw [hl] at hr
      exact hr

theorem dots_any (s : ByteArray) (c : UInt8) (w : World) (hs : s.size ≤ 8796093022207) :
    Calls Tryd.prog 28 #[.string s, .string ⟨#[c]⟩] w fun e w' => ∃ v, e = .returned v ∧ Rd w' v (dotsL c s.data.toList) ∧ Below w.heap.size w w' := by
  go_enter Tryd.func28, Tryd.ntmps28
  go_wp2_with fail
  refine (gen_any s c _ hs).mono ?_
  rintro e w1 ⟨v, rfl, hr, hb⟩
  go_wp2
  go_ret
  exact ⟨_, rfl, hr, hb⟩
end Go.Proofs.YtfbgaimjjfmfaacDoor
