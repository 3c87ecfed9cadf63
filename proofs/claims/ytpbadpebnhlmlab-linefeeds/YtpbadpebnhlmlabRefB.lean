/-
  The contracts of the document's own clean and GoodLine.
-/
import Derived.Test.YtpbadpebnhlmlabRefA
import Derived.Lib.ConvBytes
namespace Go.Proofs.Ytpbadpebnhlmlab
open Go.RowKit
set_option linter.unusedVariables false

theorem bytes_below (w : World) (s : ByteArray) : Below w.heap.size w (Lib.bytesWorld w 5 s) :=
  ⟨rfl, rfl, rfl, by rw [Lib.bytesWorld_size]; omega, fun k hk => Lib.bytesWorld_at_old w 5 s k hk⟩

theorem getD_at (s : ByteArray) (k : Nat) (h : k < s.size) : s.data.toList.getD k 0 = s[k] := by
  have h' : k < s.data.toList.length := by simpa using h
  rw [List.getD_eq_getElem?_getD, List.getElem?_eq_getElem h']
  rfl

set_option maxRecDepth 100000 in
set_option maxHeartbeats 400000 in
theorem clean28 (s : ByteArray) (w : World) (hs : s.size ≤ maxLen) : Calls Try.prog 28 #[.string s] w fun e w' => e = .returned (.bool (gtext s)) ∧ Below w.heap.size w w' := by
  unfold maxLen at hs
  have hcv := Lib.run_convert_string_bytes (P := Try.prog) w 9 46 5 s Try.underlying9 Try.underlying46 Try.underlying5
  have hB := hide (bytes_below w s)
  go_enter Try.func28, Try.ntmps28
  go_wp2
  go_loopw [8] (fun i wr => ∃ k : Nat, k ≤ s.size ∧ i = .int .i64 k ∧ wr = Lib.bytesWorld w 5 s ∧ Hid (∀ j (hj : j < s.size), j < k → vis s[j] = true)) (fun i _ => s.size - (intOf i).toNat)
  case atStart => exact ⟨0, Nat.zero_le _, rfl, rfl, fun j hj h => by omega⟩
  case round =>
    obtain ⟨k, hk, rfl, rfl, hH⟩ := hrel
    clear hcv
    by_cases hlt : k < s.size
    · have hcell : (Lib.bytesWorld w 5 s).cell? ⟨w.heap.size, k, none⟩ = some (.int .u8 s[k].toNat) := by
        rw [Lib.bytesWorld_cell w 5 s k hlt, getD_at s k hlt]
      by_cases h32 : s[k].toNat < 32
      · have HV := hide (gtext_at hlt (by simp [vis]; omega))
        go_wp2
        go_ret
        exact ⟨ret_bool HV.out.symm, hB.out⟩
      by_cases h126 : 126 < s[k].toNat
      · have HV := hide (gtext_at hlt (by simp [vis]; omega))
        go_wp2
        go_ret
        exact ⟨ret_bool HV.out.symm, hB.out⟩
      · have HV := hide (show vis s[k] = true by simp [vis]; omega)
        go_wp2
        refine ⟨⟨k + 1, hlt, by go_num, trivial, fun j hj h => ?_⟩, by simp [intOf]; omega⟩
        by_cases e : j = k
        · subst e; exact HV.out
        · exact hH.out j hj (by omega)
    · by_cases h60 : s.size ≤ 60
      · have HG := hide (gtext_all h60 (fun j hj => hH.out j hj (by omega)))
        go_wp2
        go_ret
        exact ⟨ret_bool (by rw [HG.out]; simp; omega), hB.out⟩
      · have HG := hide (gtext_long h60)
        go_wp2
        go_ret
        exact ⟨ret_bool (by rw [HG.out]; simp; omega), hB.out⟩

set_option maxRecDepth 100000 in
set_option maxHeartbeats 1000000 in
theorem good12_a (now : ByteArray) (long : Bool) (q : List ByteArray) (av : Option Addr) (cap : Nat) (w : World) (hs : Small ({ now := now, long := long, ret := false, q := q } : Lin)) (hl : q.length ≤ cap) (hm : cap ≤ maxLen)
    (hc : 0 < q.length → ∃ b off, av = some ⟨b, off, none⟩ ∧ ∀ i (h : i < q.length), w.cell? ⟨b, off + i, none⟩ = some (.string q[i])) :
    Calls Try.prog 12 #[.agg #[.string now, .bool long, .bool false, .slice av q.length cap]] w fun e w' => e = .returned (.bool (good ({ now := now, long := long, ret := false, q := q } : Lin))) ∧ Below w.heap.size w w' := by
  have hm' := hm
  unfold maxLen at hm'
  go_enter Try.func12, Try.ntmps12
  go_wp2
  go_loopw [8] (fun i wr => ∃ k : Nat, k ≤ q.length ∧ i = .int .i64 k ∧ Below (w.heap.size + 1) (w.alloc (.cells #[.string now, .bool long, .bool false, .slice av q.length cap] 24)) wr ∧ Hid (∀ j (hj : j < q.length), j < k → gtext q[j] = true)) (fun i _ => q.length - (intOf i).toNat)
  case atStart => exact ⟨0, Nat.zero_le _, rfl, Below.refl _ _, fun j hj h => by omega⟩
  case round =>
    obtain ⟨k, hk, rfl, hbr, hH⟩ := hrel
    have hzr := hbr.size
    simp only [World.size_alloc] at hzr
    have hbw : Below w.heap.size w wr := ((Below.refl _ _).alloc (Nat.le_refl _) _).trans (hbr.mono (by omega))
    have kc : Cod wr w.heap.size ({ now := now, long := long, ret := false, q := q } : Lin) (.slice av q.length cap) := by
      unfold Cod; rw [hbr.block _ (by omega)]; exact heap_alloc_new w _
    obtain ⟨c0, c1, c2, c3, cfz⟩ := kc.all
    by_cases hlt : k < q.length
    · obtain ⟨b, off, rfl, hcell⟩ := hc (by omega)
      have hck0 := hcell k hlt
      have hb := cell_lt hck0
      have hck : wr.cell? ⟨b, off + k, none⟩ = some (.string q[k]) := by rw [hbw.cell (p := ⟨b, off + k, none⟩) hb]; exact hck0
      have hsk := hs.all q[k] (List.getElem_mem hlt)
      clear hcell hc
      cases hv : gtext q[k]
      · have HV := hide hv
        have HG := hide (show good ({ now := now, long := long, ret := false, q := q } : Lin) = false by unfold good; simp only [all_at hlt hv, Bool.and_false])
        clear hv
        go_wp2_with (go_at_call 28; refine (clean28 q[k] _ hsk).mono ?_; rintro e w1 ⟨rfl, hb1⟩; rw [HV.out])
        go_ret
        exact ⟨ret_bool HG.out.symm, hbw.trans (hb1.mono hbw.size)⟩
      · have HV := hide hv
        clear hv
        go_wp2_with (go_at_call 28; refine (clean28 q[k] _ hsk).mono ?_; rintro e w1 ⟨rfl, hb1⟩; rw [HV.out])
        refine ⟨⟨k + 1, hlt, by go_num, hbr.trans (hb1.mono hzr), fun j hj h => ?_⟩, by simp [intOf]; omega⟩
        by_cases e : j = k
        · subst e; exact HV.out
        · exact hH.out j hj (by omega)
    · have HA := hide (all_all (fun j hj => hH.out j hj (by omega)))
      clear hc
      cases hg : gtext now
      · have HG := hide (show good ({ now := now, long := long, ret := false, q := q } : Lin) = false by unfold good; simp only [hg, Bool.and_false, Bool.false_and])
        have HT := hide hg
        clear hg
        go_wp2_with (go_at_call 28; refine (clean28 now _ hs.now).mono ?_; rintro e w1 ⟨rfl, hb1⟩; rw [HT.out])
        go_ret
        exact ⟨ret_bool HG.out.symm, hbw.trans (hb1.mono hbw.size)⟩
      · have HT := hide hg
        clear hg
        by_cases h6 : q.length ≤ 6
        · have HG := hide (show good ({ now := now, long := long, ret := false, q := q } : Lin) = true by unfold good; simp only [HT.out, HA.out, decide_eq_true h6, Bool.and_true]; rfl)
          go_wp2_with (go_at_call 28; refine (clean28 now _ hs.now).mono ?_; rintro e w1 ⟨rfl, hb1⟩; rw [HT.out]; have k1 : Cod w1 w.heap.size ({ now := now, long := long, ret := false, q := q } : Lin) (.slice av q.length cap) := (by unfold Cod; rw [hb1.block _ (by omega)]; exact kc); clear c0 c1 c2 c3 cfz; obtain ⟨c0, c1, c2, c3, cfz⟩ := k1.all)
          go_ret
          exact ⟨ret_bool HG.out.symm, hbw.trans (hb1.mono hbw.size)⟩
        · have HG := hide (show good ({ now := now, long := long, ret := false, q := q } : Lin) = false by unfold good; simp only [decide_eq_false h6, Bool.and_false, Bool.false_and])
          go_wp2_with (go_at_call 28; refine (clean28 now _ hs.now).mono ?_; rintro e w1 ⟨rfl, hb1⟩; rw [HT.out]; have k1 : Cod w1 w.heap.size ({ now := now, long := long, ret := false, q := q } : Lin) (.slice av q.length cap) := (by unfold Cod; rw [hb1.block _ (by omega)]; exact kc); clear c0 c1 c2 c3 cfz; obtain ⟨c0, c1, c2, c3, cfz⟩ := k1.all)
          go_ret
          exact ⟨ret_bool HG.out.symm, hbw.trans (hb1.mono hbw.size)⟩

set_option maxRecDepth 100000 in
set_option maxHeartbeats 1000000 in
theorem good12_b (long : Bool) (q : List ByteArray) (av : Option Addr) (cap : Nat) (w : World) (hs : Small ({ now := ⟨#[]⟩, long := long, ret := true, q := q } : Lin)) (hl : q.length ≤ cap) (hm : cap ≤ maxLen)
    (hc : 0 < q.length → ∃ b off, av = some ⟨b, off, none⟩ ∧ ∀ i (h : i < q.length), w.cell? ⟨b, off + i, none⟩ = some (.string q[i])) :
    Calls Try.prog 12 #[.agg #[.string ⟨#[]⟩, .bool long, .bool true, .slice av q.length cap]] w fun e w' => e = .returned (.bool (good ({ now := ⟨#[]⟩, long := long, ret := true, q := q } : Lin))) ∧ Below w.heap.size w w' := by
  have hm' := hm
  unfold maxLen at hm'
  go_enter Try.func12, Try.ntmps12
  go_wp2
  go_loopw [8] (fun i wr => ∃ k : Nat, k ≤ q.length ∧ i = .int .i64 k ∧ Below (w.heap.size + 1) (w.alloc (.cells #[.string ⟨#[]⟩, .bool long, .bool true, .slice av q.length cap] 24)) wr ∧ Hid (∀ j (hj : j < q.length), j < k → gtext q[j] = true)) (fun i _ => q.length - (intOf i).toNat)
  case atStart => exact ⟨0, Nat.zero_le _, rfl, Below.refl _ _, fun j hj h => by omega⟩
  case round =>
    obtain ⟨k, hk, rfl, hbr, hH⟩ := hrel
    have hzr := hbr.size
    simp only [World.size_alloc] at hzr
    have hbw : Below w.heap.size w wr := ((Below.refl _ _).alloc (Nat.le_refl _) _).trans (hbr.mono (by omega))
    have kc : Cod wr w.heap.size ({ now := ⟨#[]⟩, long := long, ret := true, q := q } : Lin) (.slice av q.length cap) := by
      unfold Cod; rw [hbr.block _ (by omega)]; exact heap_alloc_new w _
    obtain ⟨c0, c1, c2, c3, cfz⟩ := kc.all
    by_cases hlt : k < q.length
    · obtain ⟨b, off, rfl, hcell⟩ := hc (by omega)
      have hck0 := hcell k hlt
      have hb := cell_lt hck0
      have hck : wr.cell? ⟨b, off + k, none⟩ = some (.string q[k]) := by rw [hbw.cell (p := ⟨b, off + k, none⟩) hb]; exact hck0
      have hsk := hs.all q[k] (List.getElem_mem hlt)
      clear hcell hc
      cases hv : gtext q[k]
      · have HV := hide hv
        have HG := hide (show good ({ now := ⟨#[]⟩, long := long, ret := true, q := q } : Lin) = false by unfold good; simp only [all_at hlt hv, Bool.and_false])
        clear hv
        go_wp2_with (go_at_call 28; refine (clean28 q[k] _ hsk).mono ?_; rintro e w1 ⟨rfl, hb1⟩; rw [HV.out])
        go_ret
        exact ⟨ret_bool HG.out.symm, hbw.trans (hb1.mono hbw.size)⟩
      · have HV := hide hv
        clear hv
        go_wp2_with (go_at_call 28; refine (clean28 q[k] _ hsk).mono ?_; rintro e w1 ⟨rfl, hb1⟩; rw [HV.out])
        refine ⟨⟨k + 1, hlt, by go_num, hbr.trans (hb1.mono hzr), fun j hj h => ?_⟩, by simp [intOf]; omega⟩
        by_cases e : j = k
        · subst e; exact HV.out
        · exact hH.out j hj (by omega)
    · have HA := hide (all_all (fun j hj => hH.out j hj (by omega)))
      clear hc
      cases hg : gtext ⟨#[]⟩
      · rw [gtext_nil] at hg; exact absurd hg (by simp)
      · have HT := hide hg
        clear hg
        by_cases h6 : q.length ≤ 6
        · have HG := hide (show good ({ now := ⟨#[]⟩, long := long, ret := true, q := q } : Lin) = !long by unfold good; simp only [HT.out, HA.out, decide_eq_true h6, Bool.and_true]; cases long <;> rfl)
          go_wp2_with (go_at_call 28; refine (clean28 ⟨#[]⟩ _ hs.now).mono ?_; rintro e w1 ⟨rfl, hb1⟩; rw [HT.out]; have k1 : Cod w1 w.heap.size ({ now := ⟨#[]⟩, long := long, ret := true, q := q } : Lin) (.slice av q.length cap) := (by unfold Cod; rw [hb1.block _ (by omega)]; exact kc); clear c0 c1 c2 c3 cfz; obtain ⟨c0, c1, c2, c3, cfz⟩ := k1.all)
          go_ret
          exact ⟨ret_bool HG.out.symm, hbw.trans (hb1.mono hbw.size)⟩
        · have HG := hide (show good ({ now := ⟨#[]⟩, long := long, ret := true, q := q } : Lin) = false by unfold good; simp only [decide_eq_false h6, Bool.and_false, Bool.false_and])
          go_wp2_with (go_at_call 28; refine (clean28 ⟨#[]⟩ _ hs.now).mono ?_; rintro e w1 ⟨rfl, hb1⟩; rw [HT.out]; have k1 : Cod w1 w.heap.size ({ now := ⟨#[]⟩, long := long, ret := true, q := q } : Lin) (.slice av q.length cap) := (by unfold Cod; rw [hb1.block _ (by omega)]; exact kc); clear c0 c1 c2 c3 cfz; obtain ⟨c0, c1, c2, c3, cfz⟩ := k1.all)
          go_ret
          exact ⟨ret_bool HG.out.symm, hbw.trans (hb1.mono hbw.size)⟩

set_option maxRecDepth 100000 in
set_option maxHeartbeats 1000000 in
theorem good12_c (now : ByteArray) (long : Bool) (hne : ¬ now.size = 0) (q : List ByteArray) (av : Option Addr) (cap : Nat) (w : World) (hs : Small ({ now := now, long := long, ret := true, q := q } : Lin)) (hl : q.length ≤ cap) (hm : cap ≤ maxLen)
    (hc : 0 < q.length → ∃ b off, av = some ⟨b, off, none⟩ ∧ ∀ i (h : i < q.length), w.cell? ⟨b, off + i, none⟩ = some (.string q[i])) :
    Calls Try.prog 12 #[.agg #[.string now, .bool long, .bool true, .slice av q.length cap]] w fun e w' => e = .returned (.bool (good ({ now := now, long := long, ret := true, q := q } : Lin))) ∧ Below w.heap.size w w' := by
  have hne0 := hide hne
  have hnl := toList_ne hne
  clear hne
  have hm' := hm
  unfold maxLen at hm'
  go_enter Try.func12, Try.ntmps12
  go_wp2
  go_loopw [8] (fun i wr => ∃ k : Nat, k ≤ q.length ∧ i = .int .i64 k ∧ Below (w.heap.size + 1) (w.alloc (.cells #[.string now, .bool long, .bool true, .slice av q.length cap] 24)) wr ∧ Hid (∀ j (hj : j < q.length), j < k → gtext q[j] = true)) (fun i _ => q.length - (intOf i).toNat)
  case atStart => exact ⟨0, Nat.zero_le _, rfl, Below.refl _ _, fun j hj h => by omega⟩
  case round =>
    obtain ⟨k, hk, rfl, hbr, hH⟩ := hrel
    have hzr := hbr.size
    simp only [World.size_alloc] at hzr
    have hbw : Below w.heap.size w wr := ((Below.refl _ _).alloc (Nat.le_refl _) _).trans (hbr.mono (by omega))
    have kc : Cod wr w.heap.size ({ now := now, long := long, ret := true, q := q } : Lin) (.slice av q.length cap) := by
      unfold Cod; rw [hbr.block _ (by omega)]; exact heap_alloc_new w _
    obtain ⟨c0, c1, c2, c3, cfz⟩ := kc.all
    by_cases hlt : k < q.length
    · obtain ⟨b, off, rfl, hcell⟩ := hc (by omega)
      have hck0 := hcell k hlt
      have hb := cell_lt hck0
      have hck : wr.cell? ⟨b, off + k, none⟩ = some (.string q[k]) := by rw [hbw.cell (p := ⟨b, off + k, none⟩) hb]; exact hck0
      have hsk := hs.all q[k] (List.getElem_mem hlt)
      clear hcell hc
      cases hv : gtext q[k]
      · have HV := hide hv
        have HG := hide (show good ({ now := now, long := long, ret := true, q := q } : Lin) = false by unfold good; simp only [all_at hlt hv, Bool.and_false])
        clear hv
        go_wp2_with (go_at_call 28; refine (clean28 q[k] _ hsk).mono ?_; rintro e w1 ⟨rfl, hb1⟩; rw [HV.out])
        go_ret
        exact ⟨ret_bool HG.out.symm, hbw.trans (hb1.mono hbw.size)⟩
      · have HV := hide hv
        clear hv
        go_wp2_with (go_at_call 28; refine (clean28 q[k] _ hsk).mono ?_; rintro e w1 ⟨rfl, hb1⟩; rw [HV.out])
        refine ⟨⟨k + 1, hlt, by go_num, hbr.trans (hb1.mono hzr), fun j hj h => ?_⟩, by simp [intOf]; omega⟩
        by_cases e : j = k
        · subst e; exact HV.out
        · exact hH.out j hj (by omega)
    · have HA := hide (all_all (fun j hj => hH.out j hj (by omega)))
      clear hc
      cases hg : gtext now
      · have HG := hide (show good ({ now := now, long := long, ret := true, q := q } : Lin) = false by unfold good; simp only [hg, Bool.and_false, Bool.false_and])
        have HT := hide hg
        clear hg
        go_wp2_with (go_at_call 28; refine (clean28 now _ hs.now).mono ?_; rintro e w1 ⟨rfl, hb1⟩; rw [HT.out])
        go_ret
        exact ⟨ret_bool HG.out.symm, hbw.trans (hb1.mono hbw.size)⟩
      · have HT := hide hg
        clear hg
        by_cases h6 : q.length ≤ 6
        · have HG := hide (show good ({ now := now, long := long, ret := true, q := q } : Lin) = false by unfold good; simp only [HT.out, HA.out, decide_eq_true h6, Bool.and_true]; simp [hne0.out])
          go_wp2_with (go_at_call 28; refine (clean28 now _ hs.now).mono ?_; rintro e w1 ⟨rfl, hb1⟩; rw [HT.out]; have k1 : Cod w1 w.heap.size ({ now := now, long := long, ret := true, q := q } : Lin) (.slice av q.length cap) := (by unfold Cod; rw [hb1.block _ (by omega)]; exact kc); clear c0 c1 c2 c3 cfz; obtain ⟨c0, c1, c2, c3, cfz⟩ := k1.all)
          go_ret
          exact ⟨ret_bool HG.out.symm, hbw.trans (hb1.mono hbw.size)⟩
        · have HG := hide (show good ({ now := now, long := long, ret := true, q := q } : Lin) = false by unfold good; simp only [decide_eq_false h6, Bool.and_false, Bool.false_and])
          go_wp2_with (go_at_call 28; refine (clean28 now _ hs.now).mono ?_; rintro e w1 ⟨rfl, hb1⟩; rw [HT.out]; have k1 : Cod w1 w.heap.size ({ now := now, long := long, ret := true, q := q } : Lin) (.slice av q.length cap) := (by unfold Cod; rw [hb1.block _ (by omega)]; exact kc); clear c0 c1 c2 c3 cfz; obtain ⟨c0, c1, c2, c3, cfz⟩ := k1.all)
          go_ret
          exact ⟨ret_bool HG.out.symm, hbw.trans (hb1.mono hbw.size)⟩

theorem good12 (L : Lin) (v : Value) (w : World) (hv : Reads w v L.q) (hs : Small L) : Calls Try.prog 12 #[.agg (L.cells v)] w fun e w' => e = .returned (.bool (good L)) ∧ Below w.heap.size w w' := by
  obtain ⟨av, cap, rfl, hl, hm, hn, hc⟩ := hv
  obtain ⟨now, long, ret, q⟩ := L
  cases ret
  · exact good12_a now long q av cap w hs hl hm hc
  · by_cases h0 : now.size = 0
    · obtain rfl := empty_of h0
      exact good12_b long q av cap w hs hl hm hc
    · exact good12_c now long h0 q av cap w hs hl hm hc

end Go.Proofs.Ytpbadpebnhlmlab
