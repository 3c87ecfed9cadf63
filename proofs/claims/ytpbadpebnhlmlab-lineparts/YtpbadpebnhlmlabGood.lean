/-
  The contracts of goodText and Good of package line, and of slices.Clone.
-/
import Derived.Test.YtpbadpebnhlmlabLeaf
namespace Go.Proofs.Ytpbadpebnhlmlab
open Go.RowKit
set_option linter.unusedVariables false

theorem gtext_long {s : ByteArray} (h : ¬ s.size ≤ 60) : gtext s = false := by simp [gtext, h]

theorem gtext_at {s : ByteArray} {k : Nat} (hk : k < s.size) (h : vis s[k] = false) : gtext s = false := by
  cases hg : gtext s with
  | false => rfl
  | true =>
    have := ((gtext_iff s).1 hg).2 s[k] (by have : s[k] ∈ s.data := Array.getElem_mem (xs := s.data) (i := k) hk; simpa using this)
    rw [this] at h; simp at h

theorem gtext_all {s : ByteArray} (h : s.size ≤ 60) (ha : ∀ j (hj : j < s.size), vis s[j] = true) : gtext s = true := by
  rw [gtext_iff]
  refine ⟨h, fun c hc => ?_⟩
  obtain ⟨j, hj, rfl⟩ := List.getElem_of_mem hc
  exact ha j (by simpa using hj)

set_option maxRecDepth 100000 in
set_option maxHeartbeats 400000 in
theorem gtext_any (s : ByteArray) (w : World) (hs : s.size ≤ maxLen) : Calls Try.prog 27 #[.string s] w fun e w' => e = .returned (.bool (gtext s)) ∧ w' = w := by
  unfold maxLen at hs
  by_cases h60 : s.size ≤ 60
  · go_enter Try.func27, Try.ntmps27
    go_wp2
    go_loopw [3] (fun i wr => ∃ k : Nat, k ≤ s.size ∧ i = .int .i64 k ∧ wr = w ∧ Hid (∀ j (hj : j < s.size), j < k → vis s[j] = true)) (fun i _ => s.size - (intOf i).toNat)
    case atStart => exact ⟨0, Nat.zero_le _, rfl, rfl, fun j hj h => by omega⟩
    case round =>
      obtain ⟨k, hk, rfl, rfl, hH⟩ := hrel
      by_cases hlt : k < s.size
      · cases hv : vis s[k]
        · have HV := hide hv
          go_wp2_with (go_at_call 23; refine (shown_any s[k] _).mono ?_; rintro e w1 ⟨rfl, rfl⟩; rw [HV.out])
          go_ret
          exact ⟨ret_bool (gtext_at hlt HV.out).symm, rfl⟩
        · have HV := hide hv
          go_wp2_with (go_at_call 23; refine (shown_any s[k] _).mono ?_; rintro e w1 ⟨rfl, rfl⟩; rw [HV.out])
          refine ⟨⟨k + 1, hlt, by go_num, trivial, fun j hj h => ?_⟩, by simp [intOf]; omega⟩
          by_cases e : j = k
          · subst e; exact HV.out
          · exact hH.out j hj (by omega)
      · have hkk : k = s.size := by omega
        have HG := hide (gtext_all h60 (fun j hj => hH.out j hj (by omega)))
        go_wp2
        go_ret
        exact ⟨ret_bool HG.out.symm, rfl⟩
  · have HG := hide (gtext_long h60)
    go_enter Try.func27, Try.ntmps27
    go_wp2
    go_ret
    exact ⟨ret_bool HG.out.symm, rfl⟩

theorem good_ret {L : Lin} (hr : L.ret = true) (h : L.now.size ≠ 0 ∨ L.long = true) : good L = false := by
  unfold good; rw [hr]; rcases h with h | h
  · simp [h]
  · simp [h]

theorem good_eq {L : Lin} (h : L.ret = true → L.now.size = 0 ∧ L.long = false) : good L = (decide (L.q.length ≤ 6) && gtext L.now && L.q.all gtext) := by
  unfold good
  cases hr : L.ret
  · simp
  · obtain ⟨h1, h2⟩ := h hr; simp [h1, h2]

theorem all_at {q : List ByteArray} {k : Nat} (hk : k < q.length) (h : gtext q[k] = false) : q.all gtext = false := by
  rw [List.all_eq_false]; exact ⟨q[k], List.getElem_mem hk, by simp [h]⟩

theorem all_all {q : List ByteArray} (h : ∀ j (hj : j < q.length), gtext q[j] = true) : q.all gtext = true := by
  rw [List.all_eq_true]; intro s hs; obtain ⟨j, hj, rfl⟩ := List.getElem_of_mem hs; exact h j hj

end Go.Proofs.Ytpbadpebnhlmlab
