/-
  The contracts of what the laws about lines call besides package line: reads, clean, pick, sameTexts.
-/
import Derived.Test.YtpbadpebnhlmlabFeed
namespace Go.Proofs.Ytpbadpebnhlmlab
open Go.RowKit
set_option linter.unusedVariables false

theorem fine_zl : Fine zl := ⟨fun e => by simp [zl] at e, by decide, by decide, fun s hs => by simp [zl] at hs⟩

theorem feed_reads : feedL zl [97, 98, 13, 10, 99] = ({ now := ⟨#[99]⟩, long := false, ret := false, q := [⟨#[97, 98]⟩] }, 0) := by rfl

theorem feed_ab (w : World) : Calls Try.prog 8 #[.agg (zl.cells (.slice none 0 0)), .string ⟨#[97, 98, 13, 10, 99]⟩] w fun e w' =>
    ∃ b off cap, e = .returned (.tuple #[.agg #[.string ⟨#[99]⟩, .bool false, .bool false, .slice (some ⟨b, off, none⟩) 1 cap], .int .i64 0, .int .i64 0]) ∧ w'.cell? ⟨b, off, none⟩ = some (.string ⟨#[97, 98]⟩) ∧ Below w.heap.size w w' := by
  have h := feed_good zl (.slice none 0 0) ⟨#[97, 98, 13, 10, 99]⟩ w (reads_nil w) fine_zl (by decide)
  rw [show (ByteArray.mk #[97, 98, 13, 10, 99]).data.toList = [97, 98, 13, 10, 99] from rfl, feed_reads] at h
  refine h.mono ?_
  rintro e w' ⟨v', rfl, hr, hb⟩
  obtain ⟨av, cap, rfl, _, _, _, hc⟩ := hr
  obtain ⟨b, off, rfl, hcell⟩ := hc (by simp)
  exact ⟨b, off, cap, rfl, by simpa using hcell 0 (by simp), hb⟩

set_option maxRecDepth 100000 in
set_option maxHeartbeats 400000 in
theorem reads16 (w : World) : Calls Try.prog 16 #[] w fun e w' => e = .returned (.bool true) ∧ Below w.heap.size w w' := by
  have hf := feed_ab
  unfold zl Lin.cells at hf
  go_enter Try.func16, Try.ntmps16
  go_wp2_with (go_at_call 8; refine (hf _).mono ?_; rintro e w1 ⟨b, off, cap, rfl, hc, hb1⟩; have hlt := cell_lt hc; clear hf)
  go_ret
  exact ⟨rfl, hb1.alloc hb1.size _⟩

set_option maxRecDepth 100000 in
set_option maxHeartbeats 400000 in
theorem reads15 (w : World) : Calls Try.prog 15 #[] w fun e w' => e = .returned (.bool true) ∧ Below w.heap.size w w' := by
  have hf := feed_ab
  unfold zl Lin.cells at hf
  go_enter Try.func15, Try.ntmps15
  go_wp2_with (go_at_call 8; refine (hf _).mono ?_; rintro e w1 ⟨b, off, cap, rfl, hc, hb1⟩; have hlt := cell_lt hc; clear hf)
  go_ret
  exact ⟨rfl, hb1.alloc hb1.size _⟩

theorem pick_any (k n : Int) (w : World) (hk : -9223372036854775808 ≤ k) (hk' : k ≤ 9223372036854775807) (hn : 0 < n) (hn' : n ≤ 9223372036854775807) :
    Calls Try.prog 18 #[.int .i64 k, .int .i64 n] w fun e w' => (∃ r : Nat, (r : Int) < n ∧ e = .returned (.int .i64 r)) ∧ w' = w := by
  have h0 : (n == 0) = false := by simp; omega
  go_enter Try.func18, Try.ntmps18
  go_wp2
  all_goals go_ret
  all_goals have h1 := Int.tmod_lt_of_pos k hn
  all_goals have h2 := Int.lt_tmod_of_pos k hn
  · refine ⟨⟨(k.tmod n + n).toNat, by omega, ?_⟩, rfl⟩
    rw [show wrap64 (k.tmod n + n) = ((k.tmod n + n).toNat : Int) by unfold wrap64; omega]
    rfl
  · refine ⟨⟨(k.tmod n).toNat, by omega, ?_⟩, rfl⟩
    rw [show ((k.tmod n).toNat : Int) = k.tmod n by omega]
    rfl

set_option maxRecDepth 100000 in
set_option maxHeartbeats 400000 in
theorem clean_any (s : ByteArray) (w : World) (hs : s.size ≤ maxLen) : Calls Try.prog 19 #[.string s] w fun e w' => e = .returned (.bool (gtext s)) ∧ w' = w := by
  unfold maxLen at hs
  go_enter Try.func19, Try.ntmps19
  go_wp2
  go_loopw [6] (fun i wr => ∃ k : Nat, k ≤ s.size ∧ i = .int .i64 k ∧ wr = w ∧ Hid (∀ j (hj : j < s.size), j < k → vis s[j] = true)) (fun i _ => s.size - (intOf i).toNat)
  case atStart => exact ⟨0, Nat.zero_le _, rfl, rfl, fun j hj h => by omega⟩
  case round =>
    obtain ⟨k, hk, rfl, rfl, hH⟩ := hrel
    by_cases hlt : k < s.size
    · by_cases h32 : s[k].toNat < 32
      · have HV := hide (gtext_at hlt (by simp [vis]; omega))
        go_wp2
        go_ret
        exact ⟨ret_bool HV.out.symm, rfl⟩
      by_cases h126 : 126 < s[k].toNat
      · have HV := hide (gtext_at hlt (by simp [vis]; omega))
        go_wp2
        go_ret
        exact ⟨ret_bool HV.out.symm, rfl⟩
      · have HV := hide (show vis s[k] = true by simp [vis]; omega)
        go_wp2
        refine ⟨⟨k + 1, hlt, by go_num, trivial, fun j hj h => ?_⟩, by simp [intOf]; omega⟩
        by_cases e : j = k
        · subst e; exact HV.out
        · exact hH.out j hj (by omega)
    · have hkk : k = s.size := by omega
      by_cases h60 : s.size ≤ 60
      · have HG := hide (gtext_all h60 (fun j hj => hH.out j hj (by omega)))
        go_wp2
        go_ret
        exact ⟨ret_bool (by rw [HG.out]; simp; omega), rfl⟩
      · have HG := hide (gtext_long h60)
        go_wp2
        go_ret
        exact ⟨ret_bool (by rw [HG.out]; simp; omega), rfl⟩

set_option maxRecDepth 100000 in
set_option maxHeartbeats 400000 in
theorem same20 (q : List ByteArray) (v u : Value) (w : World) (hv : Reads w v q) (hu : Reads w u q) :
    Calls Try.prog 20 #[v, u] w fun e w' => e = .returned (.bool true) ∧ ∃ n, w' = w.drewN n := by
  obtain ⟨av, cap, rfl, hl, hm, _, hc⟩ := hv
  obtain ⟨av', cap', rfl, hl', hm', _, hc'⟩ := hu
  have hq : q.length ≤ 2 ^ 63 - 1 := by unfold maxLen at hm; omega
  clear hl hm hl' hm'
  go_enter Try.func20, Try.ntmps20
  go_wp2
  go_loopw [5] (fun i wr => ∃ k m : Nat, k ≤ q.length ∧ i = .int .i64 k ∧ wr = w.drewN m) (fun i _ => q.length - (intOf i).toNat)
  case atStart => exact ⟨0, 0, Nat.zero_le _, rfl, rfl⟩
  case round =>
    obtain ⟨k, m, hk, rfl, rfl⟩ := hrel
    by_cases hlt : k < q.length
    · obtain ⟨b, off, rfl, hcell⟩ := hc (by omega)
      obtain ⟨b', off', rfl, hcell'⟩ := hc' (by omega)
      have c1 := hcell k hlt
      have c2 := hcell' k hlt
      clear hc hc' hcell hcell'
      go_wp2
      go_region
      all_goals go_wp2
      all_goals exact ⟨⟨k + 1, _, hlt, by go_num, rfl⟩, by simp [intOf]; omega⟩
    · clear hc hc'
      go_wp2
      go_ret
      exact ⟨rfl, _, rfl⟩

end Go.Proofs.Ytpbadpebnhlmlab
