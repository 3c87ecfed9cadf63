/-
  The contract of Good of package line.
-/
import Derived.Test.YtpbadpebnhlmlabGood
namespace Go.Proofs.Ytpbadpebnhlmlab
open Go.RowKit
set_option linter.unusedVariables false

structure Small (L : Lin) : Prop where
  now : L.now.size ≤ maxLen
  all : ∀ s ∈ L.q, s.size ≤ maxLen

theorem empty_of {s : ByteArray} (h : s.size = 0) : s = ⟨#[]⟩ := by
  obtain ⟨⟨l⟩⟩ := s
  have h' : l.length = 0 := h
  rw [List.eq_nil_of_length_eq_zero h']

theorem toList_ne {s : ByteArray} (h : ¬ s.size = 0) : ¬ s.toList = [] := by
  rw [ByteArray.toList_eq]; intro e; apply h
  have : s.data.toList.length = 0 := by rw [e]; rfl
  simpa using this

set_option maxRecDepth 100000 in
set_option maxHeartbeats 400000 in
theorem good_a (now : ByteArray) (long : Bool) (q : List ByteArray) (av : Option Addr) (cap : Nat) (w : World) (hs : Small ({ now := now, long := long, ret := false, q := q } : Lin)) (hl : q.length ≤ cap) (hm : cap ≤ maxLen)
    (hc : 0 < q.length → ∃ b off, av = some ⟨b, off, none⟩ ∧ ∀ i (h : i < q.length), w.cell? ⟨b, off + i, none⟩ = some (.string q[i])) :
    Calls Try.prog 11 #[.agg #[.string now, .bool long, .bool false, .slice av q.length cap]] w fun e w' => e = .returned (.bool (good ({ now := now, long := long, ret := false, q := q } : Lin))) ∧ Below w.heap.size w w' := by
  have hm' := hm
  unfold maxLen at hm'
  by_cases h6 : q.length ≤ 6
  · cases hg : gtext now
    · have HG := hide (show good ({ now := now, long := long, ret := false, q := q } : Lin) = false by rw [good_eq (fun e => by simp at e)]; simp [hg])
      have HT := hide hg
      go_enter Try.func11, Try.ntmps11
      go_wp2_with (go_at_call 27; refine (gtext_any now _ hs.now).mono ?_; rintro e w1 ⟨rfl, rfl⟩; rw [HT.out])
      go_ret
      exact ⟨ret_bool HG.out.symm, (Below.refl _ _).alloc (Nat.le_refl _) _⟩
    · have HT := hide hg
      clear hg
      go_enter Try.func11, Try.ntmps11
      go_wp2_with (go_at_call 27; refine (gtext_any now _ hs.now).mono ?_; rintro e w1 ⟨rfl, rfl⟩; rw [HT.out])
      go_loopw [29] (fun i wr => ∃ k : Nat, k ≤ q.length ∧ i = .int .i64 k ∧ wr = w.alloc (.cells #[.string now, .bool long, .bool false, .slice av q.length cap] 24) ∧ Hid (∀ j (hj : j < q.length), j < k → gtext q[j] = true)) (fun i _ => q.length - (intOf i).toNat)
      case atStart => exact ⟨0, Nat.zero_le _, rfl, rfl, fun j hj h => by omega⟩
      case round =>
        obtain ⟨k, hk, rfl, rfl, hH⟩ := hrel
        by_cases hlt : k < q.length
        · obtain ⟨b, off, rfl, hcell⟩ := hc (by omega)
          have hck := hcell k hlt
          have hb := cell_lt hck
          have hck' : (w.alloc (.cells #[.string now, .bool long, .bool false, .slice (some ⟨b, off, none⟩) q.length cap] 24)).cell? ⟨b, off + k, none⟩ = some (.string q[k]) := by
            rw [((Below.refl w.heap.size w).alloc (Nat.le_refl _) _).cell (p := ⟨b, off + k, none⟩) hb]; exact hck
          have hsk := hs.all q[k] (List.getElem_mem hlt)
          clear hcell hc
          cases hv : gtext q[k]
          · have HV := hide hv
            have HG := hide (show good ({ now := now, long := long, ret := false, q := q } : Lin) = false by rw [good_eq (fun e => by simp at e)]; simp only [all_at hlt hv, Bool.and_false])
            clear hv
            go_wp2_with (go_at_call 27; refine (gtext_any q[k] _ hsk).mono ?_; rintro e w1 ⟨rfl, rfl⟩; rw [HV.out])
            go_ret
            exact ⟨ret_bool HG.out.symm, (Below.refl _ _).alloc (Nat.le_refl _) _⟩
          · have HV := hide hv
            clear hv
            go_wp2_with (go_at_call 27; refine (gtext_any q[k] _ hsk).mono ?_; rintro e w1 ⟨rfl, rfl⟩; rw [HV.out])
            refine ⟨⟨k + 1, hlt, by go_num, trivial, fun j hj h => ?_⟩, by simp [intOf]; omega⟩
            by_cases e : j = k
            · subst e; exact HV.out
            · exact hH.out j hj (by omega)
        · have HG := hide (show good ({ now := now, long := long, ret := false, q := q } : Lin) = true by rw [good_eq (fun e => by simp at e)]; simp only [all_all (fun j hj => hH.out j hj (by omega)), HT.out, decide_eq_true h6, Bool.and_self])
          clear hc
          go_wp2
          go_ret
          exact ⟨ret_bool HG.out.symm, (Below.refl _ _).alloc (Nat.le_refl _) _⟩
  · have HG := hide (show good ({ now := now, long := long, ret := false, q := q } : Lin) = false by rw [good_eq (fun e => by simp at e)]; simp [h6])
    go_enter Try.func11, Try.ntmps11
    go_wp2
    go_ret
    exact ⟨ret_bool HG.out.symm, (Below.refl _ _).alloc (Nat.le_refl _) _⟩

set_option maxRecDepth 100000 in
set_option maxHeartbeats 400000 in
theorem good_b  (q : List ByteArray) (av : Option Addr) (cap : Nat) (w : World) (hs : Small ({ now := ⟨#[]⟩, long := false, ret := true, q := q } : Lin)) (hl : q.length ≤ cap) (hm : cap ≤ maxLen)
    (hc : 0 < q.length → ∃ b off, av = some ⟨b, off, none⟩ ∧ ∀ i (h : i < q.length), w.cell? ⟨b, off + i, none⟩ = some (.string q[i])) :
    Calls Try.prog 11 #[.agg #[.string ⟨#[]⟩, .bool false, .bool true, .slice av q.length cap]] w fun e w' => e = .returned (.bool (good ({ now := ⟨#[]⟩, long := false, ret := true, q := q } : Lin))) ∧ Below w.heap.size w w' := by
  have hm' := hm
  unfold maxLen at hm'
  by_cases h6 : q.length ≤ 6
  · cases hg : gtext ⟨#[]⟩
    · rw [gtext_nil] at hg; exact absurd hg (by simp)
    · have HT := hide hg
      clear hg
      go_enter Try.func11, Try.ntmps11
      go_wp2_with (go_at_call 27; refine (gtext_any ⟨#[]⟩ _ hs.now).mono ?_; rintro e w1 ⟨rfl, rfl⟩; rw [HT.out])
      go_loopw [29] (fun i wr => ∃ k : Nat, k ≤ q.length ∧ i = .int .i64 k ∧ wr = w.alloc (.cells #[.string ⟨#[]⟩, .bool false, .bool true, .slice av q.length cap] 24) ∧ Hid (∀ j (hj : j < q.length), j < k → gtext q[j] = true)) (fun i _ => q.length - (intOf i).toNat)
      case atStart => exact ⟨0, Nat.zero_le _, rfl, rfl, fun j hj h => by omega⟩
      case round =>
        obtain ⟨k, hk, rfl, rfl, hH⟩ := hrel
        by_cases hlt : k < q.length
        · obtain ⟨b, off, rfl, hcell⟩ := hc (by omega)
          have hck := hcell k hlt
          have hb := cell_lt hck
          have hck' : (w.alloc (.cells #[.string ⟨#[]⟩, .bool false, .bool true, .slice (some ⟨b, off, none⟩) q.length cap] 24)).cell? ⟨b, off + k, none⟩ = some (.string q[k]) := by
            rw [((Below.refl w.heap.size w).alloc (Nat.le_refl _) _).cell (p := ⟨b, off + k, none⟩) hb]; exact hck
          have hsk := hs.all q[k] (List.getElem_mem hlt)
          clear hcell hc
          cases hv : gtext q[k]
          · have HV := hide hv
            have HG := hide (show good ({ now := ⟨#[]⟩, long := false, ret := true, q := q } : Lin) = false by rw [good_eq (fun _ => ⟨rfl, rfl⟩)]; simp only [all_at hlt hv, Bool.and_false])
            clear hv
            go_wp2_with (go_at_call 27; refine (gtext_any q[k] _ hsk).mono ?_; rintro e w1 ⟨rfl, rfl⟩; rw [HV.out])
            go_ret
            exact ⟨ret_bool HG.out.symm, (Below.refl _ _).alloc (Nat.le_refl _) _⟩
          · have HV := hide hv
            clear hv
            go_wp2_with (go_at_call 27; refine (gtext_any q[k] _ hsk).mono ?_; rintro e w1 ⟨rfl, rfl⟩; rw [HV.out])
            refine ⟨⟨k + 1, hlt, by go_num, trivial, fun j hj h => ?_⟩, by simp [intOf]; omega⟩
            by_cases e : j = k
            · subst e; exact HV.out
            · exact hH.out j hj (by omega)
        · have HG := hide (show good ({ now := ⟨#[]⟩, long := false, ret := true, q := q } : Lin) = true by rw [good_eq (fun _ => ⟨rfl, rfl⟩)]; simp only [all_all (fun j hj => hH.out j hj (by omega)), HT.out, decide_eq_true h6, Bool.and_self])
          clear hc
          go_wp2
          go_ret
          exact ⟨ret_bool HG.out.symm, (Below.refl _ _).alloc (Nat.le_refl _) _⟩
  · have HG := hide (show good ({ now := ⟨#[]⟩, long := false, ret := true, q := q } : Lin) = false by rw [good_eq (fun _ => ⟨rfl, rfl⟩)]; simp [h6])
    go_enter Try.func11, Try.ntmps11
    go_wp2
    go_ret
    exact ⟨ret_bool HG.out.symm, (Below.refl _ _).alloc (Nat.le_refl _) _⟩

theorem good_c (now : ByteArray) (long : Bool) (q : List ByteArray) (v : Value) (w : World) (h : ¬ now.size = 0 ∨ long = true) :
    Calls Try.prog 11 #[.agg #[.string now, .bool long, .bool true, v]] w fun e w' => e = .returned (.bool (good ({ now := now, long := long, ret := true, q := q } : Lin))) ∧ Below w.heap.size w w' := by
  have HG := hide (show good ({ now := now, long := long, ret := true, q := q } : Lin) = false from good_ret rfl h)
  by_cases h0 : now.size = 0
  · obtain rfl := empty_of h0
    obtain rfl : long = true := by simpa [h0] using h
    go_enter Try.func11, Try.ntmps11
    go_wp2
    go_ret
    exact ⟨ret_bool HG.out.symm, (Below.refl _ _).alloc (Nat.le_refl _) _⟩
  · have hne := toList_ne h0
    clear h h0
    go_enter Try.func11, Try.ntmps11
    go_wp2
    go_ret
    exact ⟨ret_bool HG.out.symm, (Below.refl _ _).alloc (Nat.le_refl _) _⟩

theorem good_any (L : Lin) (v : Value) (w : World) (hv : Reads w v L.q) (hs : Small L) : Calls Try.prog 11 #[.agg (L.cells v)] w fun e w' => e = .returned (.bool (good L)) ∧ Below w.heap.size w w' := by
  obtain ⟨av, cap, rfl, hl, hm, hn, hc⟩ := hv
  obtain ⟨now, long, ret, q⟩ := L
  cases ret
  · exact good_a now long q av cap w hs hl hm hc
  · by_cases h : ¬ now.size = 0 ∨ long = true
    · exact good_c now long q _ w h
    · have h0 : now.size = 0 := Classical.byContradiction fun e => h (.inl e)
      have hl0 : long = false := by cases long with | false => rfl | true => exact absurd (.inr rfl) h
      subst hl0
      obtain rfl := empty_of h0
      exact good_b q av cap w hs hl hm hc

end Go.Proofs.Ytpbadpebnhlmlab
