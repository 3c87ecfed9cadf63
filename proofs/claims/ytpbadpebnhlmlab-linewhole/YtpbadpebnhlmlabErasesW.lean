/-
  The walk of the law LineErases.
-/
import Derived.Test.YtpbadpebnhlmlabKeep
import Derived.Deep.RegionHeld3
namespace Go.Proofs.Ytpbadpebnhlmlab
open Go.RowKit
set_option linter.unusedVariables false

/-- Text that may stand, from an empty line on. -/
theorem feed_text (l : List UInt8) (M : Lin) (hr : M.ret = false) (hv : ∀ c ∈ l, vis c = true) (hn : M.now.size + l.length ≤ 60) :
    feedL M l = ({ M with now := M.now ++ ⟨l.toArray⟩ }, 0) := by
  induction l generalizing M with
  | nil =>
    have : M.now ++ (⟨([] : List UInt8).toArray⟩ : ByteArray) = M.now := by
      apply ByteArray.ext; simp
    rw [this]; rfl
  | cons c l ih =>
    have hc := hv c (by simp)
    have hc' : 32 ≤ c.toNat ∧ c.toNat ≤ 126 := by simpa [vis] using hc
    have h13 : ¬ (c = 13 ∨ c = 10) := by rintro (rfl | rfl) <;> simp at hc'
    have h8 : ¬ (c = 8 ∨ c = 127) := by rintro (rfl | rfl) <;> simp at hc'
    simp only [List.length_cons] at hn
    have hs : step M c = ({ M with now := M.now ++ ⟨#[c]⟩ }, 0) := by
      unfold step
      rw [if_neg (by simp [hr]), if_neg h13, if_neg h8, if_neg (by simp [hc]), if_neg (by omega)]
      cases M; simp_all
    simp only [feedL, hs]
    rw [ih { M with now := M.now ++ ⟨#[c]⟩ } hr (fun d hd => hv d (by simp [hd])) (by simp only [ByteArray.size_append]; have : (ByteArray.mk #[c]).size = 1 := rfl; omega)]
    have : M.now ++ (⟨#[c]⟩ : ByteArray) ++ (⟨l.toArray⟩ : ByteArray) = M.now ++ ⟨(c :: l).toArray⟩ := by
      apply ByteArray.ext; simp
    simp only [this]

theorem feed_erase (n : Nat) (M : Lin) (hr : M.ret = false) : feedL M (List.replicate n 8) = ({ M with now := M.now.extract 0 (M.now.size - n) }, 0) := by
  induction n generalizing M with
  | zero =>
    have : M.now.extract 0 M.now.size = M.now := by apply ByteArray.ext; simp
    simp only [List.replicate, feedL, Nat.sub_zero, this]
  | succ n ih =>
    have hs : step M 8 = ({ M with now := M.now.extract 0 (M.now.size - 1) }, 0) := by
      unfold step
      rw [if_neg (by simp [hr]), if_neg (by decide), if_pos (by simp)]
      cases M; simp_all
    simp only [List.replicate_succ, feedL, hs]
    rw [ih { M with now := M.now.extract 0 (M.now.size - 1) } hr]
    have : (M.now.extract 0 (M.now.size - 1)).extract 0 ((M.now.extract 0 (M.now.size - 1)).size - n) = M.now.extract 0 (M.now.size - (n + 1)) := by
      apply ByteArray.ext
      simp only [ByteArray.data_extract, ByteArray.size_extract]
      rw [Array.extract_extract]
      congr 1
      omega
    simp only [this]

theorem feed_all (s : ByteArray) (n : Nat) (h : gtext s = true) :
    feedL zl (s.data.toList ++ List.replicate n 8 ++ [10]) = ({ now := ⟨#[]⟩, long := false, ret := false, q := [s.extract 0 (s.size - n)] }, 0) := by
  obtain ⟨h60, hv⟩ := (gtext_iff s).1 h
  rw [feedL_append, feedL_append, feed_text s.data.toList zl rfl hv (by have : zl.now.size = 0 := rfl; simp only [this, Array.length_toList, Nat.zero_add]; exact h60)]
  have e : zl.now ++ (⟨s.data.toList.toArray⟩ : ByteArray) = s := by apply ByteArray.ext; simp [zl]
  simp only [e]
  rw [feed_erase n _ rfl]
  simp only [feedL]
  rfl
/-- A text, and bytes that erase behind it. -/
def pad (s : ByteArray) (k : Nat) : ByteArray := ⟨(s.data.toList ++ List.replicate k 8).toArray⟩

theorem pad_size (s : ByteArray) (k : Nat) : (pad s k).size = s.size + k := by
  show ((s.data.toList ++ List.replicate k 8).toArray).size = s.data.size + k
  rw [List.size_toArray, List.length_append, List.length_replicate, Array.length_toList]
theorem pad_zero (s : ByteArray) : pad s 0 = s := by apply ByteArray.ext; simp [pad]
theorem pad_succ (s : ByteArray) (k : Nat) : pad s k ++ (⟨#[8]⟩ : ByteArray) = pad s (k + 1) := by
  apply ByteArray.ext; simp [pad, List.replicate_succ']

theorem erases_feed (s : ByteArray) (n : Nat) (h : gtext s = true) (hn : n ≤ 100) (w : World) :
    Calls Try.prog 8 #[.agg (zl.cells (.slice none 0 0)), .string (pad s n ++ (⟨#[10]⟩ : ByteArray))] w fun e w' =>
      ∃ b off cap, e = .returned (.tuple #[.agg #[.string ⟨#[]⟩, .bool false, .bool false, .slice (some ⟨b, off, none⟩) 1 cap], .int .i64 0, .int .i64 0]) ∧ w'.cell? ⟨b, off, none⟩ = some (.string (s.extract 0 (s.size - n))) ∧ Below w.heap.size w w' := by
  have h60 := ((gtext_iff s).1 h).1
  have hh := feed_good zl (.slice none 0 0) (pad s n ++ (⟨#[10]⟩ : ByteArray)) w (reads_nil w) fine_zl (by rw [ByteArray.size_append, pad_size]; have : (ByteArray.mk #[10]).size = 1 := rfl; unfold maxLen; omega)
  rw [show (pad s n ++ (⟨#[10]⟩ : ByteArray)).data.toList = s.data.toList ++ List.replicate n 8 ++ [10] by simp [pad], feed_all s n h] at hh
  refine hh.mono ?_
  rintro e w' ⟨v', rfl, hr, hb⟩
  obtain ⟨av, cap, rfl, _, _, _, hc⟩ := hr
  obtain ⟨b, off, rfl, hcell⟩ := hc (by simp)
  exact ⟨b, off, cap, rfl, by simpa using hcell 0 (by simp), hb⟩

set_option maxRecDepth 100000 in
set_option maxHeartbeats 2000000 in
theorem erases_walk (s : ByteArray) (n : Int) (w : World) (hs : s.size ≤ maxLen) (hk : -9223372036854775808 ≤ n) (hk' : n ≤ 9223372036854775807) :
    Calls Try.prog 6 #[.string s, .int .i64 n] w fun e w' => e = .returned (.bool true) ∧ Below w.heap.size w w' := by
  cases hg : gtext s
  · have HG := hide hg
    clear hg
    go_enter Try.func6, Try.ntmps6
    go_wp2_with (first | (go_at_call 19; refine (clean_any s _ hs).mono ?_; rintro e w1 ⟨rfl, hw⟩; rw [HG.out, hw]; clear hw) | (go_at_call 16; refine (reads16 _).mono ?_; rintro e w1 ⟨rfl, hb1⟩))
    go_ret
    exact ⟨rfl, hb1⟩
  · have HG := hide hg
    have h60 := ((gtext_iff s).1 hg).1
    clear hg
    go_enter Try.func6, Try.ntmps6
    go_wp2_with (first | (go_at_call 19; refine (clean_any s _ hs).mono ?_; rintro e w1 ⟨rfl, hw⟩; rw [HG.out, hw]; clear hw) | (go_at_call 18; refine (pick_any n ((s.size : Nat) + 3) _ hk hk' (by omega) (by omega)).mono ?_; rintro e w1 ⟨⟨r, hr, rfl⟩, hw⟩; rw [hw]; clear hw))
    go_loopw [5, 20] (fun t i wr => ∃ k : Nat, k ≤ r ∧ i = .int .i64 k ∧ t = .string (pad s k) ∧ wr = w) (fun _ i _ => r - (intOf i).toNat)
    case atStart => exact ⟨0, Nat.zero_le _, rfl, by rw [pad_zero], rfl⟩
    case round =>
      obtain ⟨k, hk1, rfl, rfl, rfl⟩ := hrel
      have hps := pad_size s k
      by_cases hlt : k < r
      · have hpp := pad_succ s k
        have hcc : ¬ 9223372036854775807 < (pad s k).size + 1 := by omega
        go_wp2
        exact ⟨⟨k + 1, hlt, by go_num, rfl, trivial⟩, by simp [intOf]; omega⟩
      · obtain rfl : k = r := by omega
        have hcc : ¬ 9223372036854775807 < (pad s k).size + 1 := by omega
        have HC := hide (fun w => erases_feed s k HG.out (by omega) w)
        unfold zl Lin.cells at HC
        go_wp2_with fail
        refine (HC.out _).mono ?_
        rintro e w1 ⟨b, off, cap, rfl, hc, hb1⟩
        have hlt := cell_lt hc
        have hw : IntKind.i64.wrap ((s.size : Int) - (k : Int)) = (s.size : Int) - (k : Int) := by rw [IntKind.wrap_i64]; omega
        by_cases hks : k < s.size
        · have hpos : (0 : Int) < (s.size : Int) - (k : Int) := by omega
          have hle0 : (0 : Int) ≤ (s.size : Int) - (k : Int) := by omega
          have hle1 : (s.size : Int) - (k : Int) ≤ (s.size : Int) := by omega
          have het : ((s.size : Int) - (k : Int)).toNat = s.size - k := by omega
          have hle2 : k ≤ s.size := by omega
          go_wp2
          go_region_held3 (fun w' => w'.cell? ⟨w1.heap.size, 3, none⟩ = some (.slice (some ⟨b, off, none⟩) 1 cap) ∧ w'.cell? ⟨b, off, none⟩ = some (.string (s.extract 0 (s.size - k)))) (go_keep)
            ((go_at_call 16; refine (reads16 _).mono ?_; rintro e w2 ⟨rfl, hb2⟩; have hs1 : w2.cell? ⟨w1.heap.size, 3, none⟩ = some (.slice (some ⟨b, off, none⟩) 1 cap) := (hb2.cell (p := ⟨w1.heap.size, 3, none⟩) (by simp)).trans (by simp); have hs2 : w2.cell? ⟨b, off, none⟩ = some (.string (s.extract 0 (s.size - k))) := (hb2.cell (p := ⟨b, off, none⟩) (by simp at hlt ⊢; omega)).trans (by simp [*])))
          all_goals go_wp2
          all_goals go_ret
          all_goals exact ⟨rfl, ((hb1.alloc hb1.size _).drew).trans (hb2.mono (by have := hb1.size; simp; omega))⟩
        · have hpos : ¬ (0 : Int) < (s.size : Int) - (k : Int) := by omega
          have hle2 : s.size ≤ k := by omega
          have hxx : s.extract 0 (s.size - k) = ⟨#[]⟩ := by
            rw [show s.size - k = 0 by omega]; apply ByteArray.ext; simp
          have hx0 : s.extract 0 0 = ⟨#[]⟩ := by apply ByteArray.ext; simp
          rw [hxx] at hc
          go_wp2
          go_region_held3 (fun w' => w'.cell? ⟨w1.heap.size, 3, none⟩ = some (.slice (some ⟨b, off, none⟩) 1 cap) ∧ w'.cell? ⟨b, off, none⟩ = some (.string ⟨#[]⟩)) (go_keep)
            ((go_at_call 16; refine (reads16 _).mono ?_; rintro e w2 ⟨rfl, hb2⟩; have hs1 : w2.cell? ⟨w1.heap.size, 3, none⟩ = some (.slice (some ⟨b, off, none⟩) 1 cap) := (hb2.cell (p := ⟨w1.heap.size, 3, none⟩) (by simp)).trans (by simp); have hs2 : w2.cell? ⟨b, off, none⟩ = some (.string ⟨#[]⟩) := (hb2.cell (p := ⟨b, off, none⟩) (by simp at hlt ⊢; omega)).trans (by simp [*])))
          all_goals go_wp2
          all_goals go_ret
          all_goals exact ⟨rfl, ((hb1.alloc hb1.size _).drew).trans (hb2.mono (by have := hb1.size; simp; omega))⟩
end Go.Proofs.Ytpbadpebnhlmlab
