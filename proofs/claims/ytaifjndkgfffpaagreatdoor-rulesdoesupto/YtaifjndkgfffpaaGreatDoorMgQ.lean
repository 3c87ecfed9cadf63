/-
  The document's own turn: what it has; those that are meant of a list: contracts.
-/
import Derived.Test.YtaifjndkgfffpaaGreatDoorMgW
import Derived.Test.YtaifjndkgfffpaaGreatDoorMgG
import Derived.Test.YtaifjndkgfffpaaGreatDoorMgP
import Derived.Test.YtaifjndkgfffpaaGreatDoorMgI
namespace Go.Proofs.YtaifjndkgfffpaaGreatDoor
open Go.RowKit
set_option linter.unusedVariables false
set_option maxRecDepth 100000 in
set_option maxHeartbeats 2000000 in
theorem tmine_any {w0 : World} {L : Ld} {Es : List Ev} {w : World} {b : Nat} (hS : Sn 52 [.int .i64 (b : Int)] w0 L Es w) :
    Calls Tryz.prog 20 #[.pointer (some ⟨w0.heap.size, 0, none⟩)] w fun e w' => ∃ v, e = .returned v ∧ OwnI w.heap.size w' v (handL L b) ∧ Below w.heap.size w w' := by
  have HS0 := hide hS
  have HV := hide (show handL L b = hasK L 1 (b : Int) 9 from rfl)
  clear hS
  go_enter Tryz.func20, Tryz.ntmps20
  go_wp2_with fail
  refine wp_region_held (S := fun W => Sn 52 [.int .i64 (b : Int)] w0 L Es W ∧ Below w.heap.size w W) (by kernel_rfl) ?_
  have HS : Sn 52 [.int .i64 (b : Int)] w0 L Es w.drew ∧ Below w.heap.size w w.drew := ⟨HS0.out.drew, (Below.refl _ _).drew⟩
  clear HS0
  change wpAnyH _ _ _ _ _ _ _ _ w.drew
  generalize w.drew = W0 at HS ⊢
  refine tw (i := 0) (d := some 3) (fuel := 9) (v := ?_) rfl rfl ?_ HS ?_
  rotate_left
  · intro W hW; go_simp; try with_reducible rfl
  simp only [Act.put, sT, List.set]
  refine tw (i := 1) (d := some 4) (fuel := 8) (v := ?_) rfl rfl ?_ HS ?_
  rotate_left
  · intro W hW; go_simp; try with_reducible rfl
  simp only [Act.put, sT, List.set]
  refine tw (i := 2) (d := some 5) (fuel := 7) (v := ?_) rfl rfl ?_ HS ?_
  rotate_left
  · intro W hW; go_simp; try with_reducible rfl
  simp only [Act.put, sT, List.set]
  refine tk (i := 3) (d := some 6) (fuel := 6) (v := .agg L.cells) rfl rfl (Or.inl ⟨by rfl, fun W hW => exec_scene (.tmp 5) rfl rfl hW.1⟩) HS ?_
  simp only [Act.put, sT, List.set]
  refine tw (i := 4) (d := some 7) (fuel := 5) (v := ?_) rfl rfl ?_ HS ?_
  rotate_left
  · intro W hW; go_simp; try with_reducible rfl
  simp only [Act.put, sT, List.set]
  refine tw (i := 5) (d := some 8) (fuel := 4) (v := ?_) rfl rfl ?_ HS ?_
  rotate_left
  · intro W hW; go_simp; try with_reducible rfl
  simp only [Act.put, sT, List.set]
  refine tw (i := 6) (d := some 9) (fuel := 3) (v := ?_) rfl rfl ?_ HS ?_
  rotate_left
  · intro W hW; go_simp; try with_reducible rfl
  simp only [Act.put, sT, List.set]
  refine tw (i := 7) (d := some 10) (fuel := 2) (v := ?_) rfl rfl ?_ HS ?_
  rotate_left
  · intro W hW
    have cb : W.cell? ⟨w0.heap.size, 165, none⟩ = some (.int .i64 (b : Int)) := hW.1.fore 0 (by simp)
    go_simp
    try with_reducible rfl
  simp only [Act.put, sT, List.set]
  refine wpAnyH_all (fuel := 1) (rs := [8]) (by kernel_rfl) (by simp) ?_
  intro i hi
  obtain rfl : i = 8 := by simpa using hi
  clear hi
  refine call_at (d := some 11) rfl rfl (by rfl) 52 #[.agg L.cells, .int .i64 1, .int .i64 (b : Int)] (by kernel_rfl) ?_
  refine (hasat_own L 1 (b : Int) _).mono ?_
  rintro e x2 ⟨v, rfl, ho, hb2⟩
  have S2 : Sn 52 [.int .i64 (b : Int)] w0 L Es x2 ∧ Below w.heap.size w x2 := ⟨HS.1.below hb2, HS.2.trans (hb2.mono HS.2.size)⟩
  have A := hide (OwnI.base (show OwnI _ _ _ _ from ho) (show w.heap.size ≤ W0.heap.size + 1 by have := HS.2.size; omega))
  have B := hide S2.2
  obtain ⟨av, cap, rfl⟩ := own_shapeN ho
  clear ho hb2 HS
  refine ⟨_, rfl, S2, ?_⟩
  simp only [Act.put, sT, List.set]
  refine tw (i := 9) (d := some 2) (fuel := 0) (v := ?_) rfl rfl ?_ S2 ?_
  rotate_left
  · intro W hW; go_simp; try with_reducible rfl
  simp only [Act.put, sT, List.set]
  refine wpAnyH_done (by kernel_rfl) ?_ _
  go_wp2
  go_ret
  exact ⟨_, rfl, by rw [HV.out]; exact A.out, B.out⟩

theorem meant_len {L : Ld} {q : List Int} {n : Int} {all : Bool} {name : ByteArray} : (meantL L q n all name).length ≤ q.length := by
  unfold meantL
  have h := List.length_filter_le (fits L name) q
  split
  · exact h
  · unfold nthL
    split
    · simp
    · simp only [List.length_singleton]; omega
theorem meant_nil {L : Ld} {n : Int} {all : Bool} {name : ByteArray} : meantL L [] n all name = [] := by
  cases all with
  | true => rfl
  | false =>
    show nthL [] n = []
    unfold nthL
    rw [if_pos (by simp; omega)]
theorem filter_next {L : Ld} {q : List Int} {k : Nat} {name : ByteArray} (hk : k < q.length) (hf : fits L name (q.getD k 0) = true) : (q.take (k + 1)).filter (fits L name) = (q.take k).filter (fits L name) ++ [q.getD k 0] := by
  rw [take_snoc hk, List.filter_append]
  simp only [List.filter_cons, hf, List.filter_nil, if_true]
theorem meant_skip {L : Ld} {q : List Int} {k : Nat} {n : Int} {all : Bool} {name : ByteArray} (hk : k < q.length) (hf : fits L name (q.getD k 0) = false) : meantL L (q.take (k + 1)) n all name = meantL L (q.take k) n all name := by
  have e : (q.take (k + 1)).filter (fits L name) = (q.take k).filter (fits L name) := by
    rw [take_snoc hk, List.filter_append]
    simp only [List.filter_cons, hf, List.filter_nil, if_false, Bool.false_eq_true, List.append_nil]
  unfold meantL
  rw [e]
theorem meant_hit {L : Ld} {q : List Int} {k : Nat} {n : Int} {all : Bool} {name : ByteArray} (hk : k < q.length) (hf : fits L name (q.getD k 0) = true) (h : all = true ∨ n = (((q.take k).filter (fits L name)).length : Int) + 1) :
    meantL L (q.take (k + 1)) n all name = meantL L (q.take k) n all name ++ [q.getD k 0] := by
  unfold meantL
  rw [filter_next hk hf]
  cases all with
  | true => rfl
  | false =>
    have h' : n = (((q.take k).filter (fits L name)).length : Int) + 1 := by simpa using h
    generalize (q.take k).filter (fits L name) = F at *
    simp only [Bool.false_eq_true, if_false]
    have e1 : nthL F n = [] := by unfold nthL; rw [if_pos (.inr (by omega))]
    have e2 : nthL (F ++ [q.getD k 0]) n = [q.getD k 0] := by
      unfold nthL
      rw [if_neg (by simp; omega)]
      have : (n - 1).toNat = F.length := by omega
      rw [this]
      simp
    rw [e1, e2]; rfl
theorem meant_miss {L : Ld} {q : List Int} {k : Nat} {n : Int} {name : ByteArray} (hk : k < q.length) (hf : fits L name (q.getD k 0) = true) (h : n ≠ (((q.take k).filter (fits L name)).length : Int) + 1) :
    meantL L (q.take (k + 1)) n false name = meantL L (q.take k) n false name := by
  unfold meantL
  rw [filter_next hk hf]
  generalize (q.take k).filter (fits L name) = F at *
  simp only [Bool.false_eq_true, if_false]
  unfold nthL
  by_cases h1 : n < 1
  · rw [if_pos (.inl h1), if_pos (.inl h1)]
  · by_cases h2 : (F.length : Int) < n
    · rw [if_pos (.inr (by simp; omega)), if_pos (.inr h2)]
    · rw [if_neg (by simp; omega), if_neg (by omega)]
      have : (n - 1).toNat < F.length := by omega
      simp only [List.getD_eq_getElem?_getD]
      rw [List.getElem?_append_left this]

/-- What is left of the number. -/
def Mm (L : Ld) (name : ByteArray) (q : List Int) (n : Int) (k : Nat) (m : Int) : Prop := (m - (n - (((q.take k).filter (fits L name)).length : Int))) % 18446744073709551616 = 0 ∧ -9223372036854775808 ≤ m ∧ m ≤ 9223372036854775807
theorem mm_skip {L : Ld} {q : List Int} {k : Nat} {n m : Int} {name : ByteArray} (hk : k < q.length) (hf : fits L name (q.getD k 0) = false) (h : Mm L name q n k m) : Mm L name q n (k + 1) m := by
  have e : (q.take (k + 1)).filter (fits L name) = (q.take k).filter (fits L name) := by
    rw [take_snoc hk, List.filter_append]
    simp only [List.filter_cons, hf, List.filter_nil, if_false, Bool.false_eq_true, List.append_nil]
  unfold Mm at h ⊢
  rw [e]; exact h
theorem mm_next {L : Ld} {q : List Int} {k : Nat} {n m m' : Int} {name : ByteArray} (hk : k < q.length) (hf : fits L name (q.getD k 0) = true) (h : Mm L name q n k m) (hw : wrap64 (m - 1) = m') : Mm L name q n (k + 1) m' := by
  obtain ⟨h1, h2, h3⟩ := h
  unfold Mm
  rw [filter_next hk hf]
  generalize ((q.take k).filter (fits L name)) = F at *
  simp only [List.length_append, List.length_singleton, Int.natCast_add, Int.natCast_one]
  subst hw
  simp only [wrap64]
  omega
theorem mm_zero {L : Ld} {q : List Int} {k : Nat} {n m : Int} {name : ByteArray} (hk : k < q.length) (hf : fits L name (q.getD k 0) = true) (hlen : q.length ≤ 18) (hn0 : -9223372036854775808 ≤ n) (hn1 : n ≤ 9223372036854775807) (h : Mm L name q n (k + 1) m) (hz : m = 0) : n = (((q.take k).filter (fits L name)).length : Int) + 1 := by
  obtain ⟨h1, h2, h3⟩ := h
  have hl := filter_len q k (fits L name) hlen
  rw [filter_next hk hf] at h1
  generalize ((q.take k).filter (fits L name)) = F at *
  simp only [List.length_append, List.length_singleton, Int.natCast_add, Int.natCast_one] at h1
  omega
theorem mm_eq {L : Ld} {q : List Int} {k : Nat} {n m : Int} {name : ByteArray} (hk : k < q.length) (hf : fits L name (q.getD k 0) = true) (h : Mm L name q n (k + 1) m) (e : n = (((q.take k).filter (fits L name)).length : Int) + 1) : m = 0 := by
  obtain ⟨h1, h2, h3⟩ := h
  rw [filter_next hk hf] at h1
  generalize ((q.take k).filter (fits L name)) = F at *
  simp only [List.length_append, List.length_singleton, Int.natCast_add, Int.natCast_one] at h1
  omega

set_option maxRecDepth 100000 in
set_option maxHeartbeats 2000000 in
theorem these_any {w0 : World} {L : Ld} {Es : List Ev} {w : World} {b : Nat} (hS : Sn 52 [.int .i64 (b : Int)] w0 L Es w) {v : Value} {q : List Int} (hN : NumK w0.heap.size 166 w v q) (hq : ∀ x ∈ q, ∃ i : Nat, x = (i : Int) ∧ i < 9) (hlen : q.length ≤ 18)
    (n : Int) (hn0 : -9223372036854775808 ≤ n) (hn1 : n ≤ 9223372036854775807) (name : ByteArray) (all : Bool) :
    Calls Tryz.prog 53 #[.pointer (some ⟨w0.heap.size, 0, none⟩), v, .int .i64 n, .string name, .bool all] w fun e w' => ∃ v', e = .returned v' ∧ OwnI w.heap.size w' v' (meantL L q n all name) ∧ Below w.heap.size w w' := by
  obtain ⟨i0, hi0, hz0, hz1, hz2⟩ := info_parts Tryz.info3
  have HS := hide hS
  have HN := hide hN
  have HQ := hide hq
  obtain ⟨av, cap, rfl⟩ := hN.shape
  clear hS hN hq
  generalize hnn : q.length = ln at *
  have HNn := hide hnn
  clear hnn
  go_enter Tryz.func53, Tryz.ntmps53
  go_wp2
  go_loopw [2, 11, 16] (fun mv u c wr => ∃ k : Nat, k ≤ ln ∧ c = .int .i64 k ∧ ∃ m : Int, mv = .int .i64 m ∧ Mm L name q n k m ∧ OwnI w.heap.size wr u (meantL L (q.take k) n all name) ∧ Below w.heap.size w wr) (fun _ _ c _ => ln - (intOf c).toNat)
  case atStart => exact ⟨0, by omega, rfl, n, rfl, ⟨by simp only [List.take_zero, List.filter_nil, List.length_nil]; omega, hn0, hn1⟩, by rw [List.take_zero, meant_nil]; exact ownI_nil _ _, Below.refl _ _⟩
  case round =>
    obtain ⟨k, hle, rfl, m, rfl, hm, ho, hlow⟩ := hrel
    obtain ⟨av2, cap2, rfl⟩ := ho.shape
    have HM := hide hm
    have HO := hide ho
    have HL := hide hlow
    clear hm ho hlow
    by_cases hk : k < ln
    · have hkq : k < q.length := by rw [HNn.out]; exact hk
      obtain ⟨bq, off, cap', e, hcell⟩ := (HN.out.step (Stp.below (o := 166) HL.out HS.out.lt)).cell hkq
      rw [HNn.out] at e
      injection e with e1 e2 e3
      subst e1 e3
      clear e2
      obtain ⟨i, ei, hi⟩ := HQ.out _ (getD_mem hkq)
      have c0 := (HS.out.below HL.out).thing i 0 hi (by omega)
      simp only [Nat.add_zero, Ld.thingCell] at c0
      have hci : (i : Int) < 9 := by omega
      have HEI := hide ei
      rw [ei] at hcell
      clear ei
      have hlen : q.length ≤ 18 := by rw [HNn.out]; exact hlen
      cases hx : decide (name = ⟨#[]⟩) with
      | true =>
        have he : name.toList.isEmpty = true := by rw [empty_iff]; exact hx
        have HF := hide (show fits L name (q.getD k 0) = true by unfold fits; rw [hx]; rfl)
        clear hx
        obtain ⟨m', hw'⟩ : ∃ m', wrap64 (m - 1) = m' := ⟨_, rfl⟩
        have HMM := hide (mm_next (L := L) (name := name) hkq HF.out HM.out hw')
        cases ha : all with
        | true =>
          subst ha
          have HN2 := hide (meant_hit (L := L) (q := q) (n := n) (all := true) (name := name) hkq HF.out (.inl rfl))
          rw [HEI.out] at HN2
          have hlz := meant_len (L := L) (q := q.take k) (n := n) (all := true) (name := name)
          have htk : (q.take k).length ≤ 18 := by simp; omega
          have HOA := hide (HO.out.below (below_box wr (.cells #[.int .i64 (i : Int)] 3)))
          have hsz := HL.out.size
          clear HO HS
          generalize meantL L (q.take k) n true name = Z at *
          go_wp2_with (at_builtin; refine wpList_append_own_at _ rfl (.tmp 41) (.tmp 43) 59 rfl w.heap.size 3 i0 (.int .i64 0) 1 8 Tryz.underlying59 hi0 hz0 hz1 hz2 rfl (by decide) _ Z.length (icells Z) rfl HOA.out ⟨_, 0, none⟩ 1 1 [.int .i64 (i : Int)] rfl ?a1 ?a2 ?a3 ?a4 ?a5 ?a6 ?_)
          case a1 => rfl
          case a2 => exact cell_one_new _ _ _
          case a3 => intro u hu; simp at hu; subst hu; rfl
          case a4 => unfold maxLen; omega
          case a5 => omega
          case a6 => simp; omega
          intro v' w2 hoo hg _ _
          have A : Hid (OwnI w.heap.size w2 v' (Z ++ [(i : Int)])) := by
            show w2.ownsRow _ _ _ _ _ _
            simpa [icells] using hoo
          have B : Hid (Below w.heap.size w w2) := (HL.out.alloc hsz _).grown hg (by simp; omega) (fun j hj => (HOA.out.lt j (by simpa using hj)).1)
          obtain ⟨av', cap', rfl⟩ := A.out.shape
          clear hoo hg
          go_wp2
          go_roundw
          case rel => exact ⟨k + 1, by omega, rfl, m', (by first | rfl | rw [hw']), HMM.out, by rw [HN2.out]; exact A.out, B.out⟩
          case measure => simp [intOf]; omega
        | false =>
          subst ha
          cases hz : decide (m' = 0) with
          | true =>
            have hz0' : (m' == 0) = true := by simpa using hz
            have hzz : m' = 0 := by simpa using hz
            have HW := hide (mm_zero (L := L) (name := name) hkq HF.out hlen hn0 hn1 HMM.out hzz)
            clear hzz hz
            have HN2 := hide (meant_hit (L := L) (q := q) (n := n) (all := false) (name := name) hkq HF.out (.inr HW.out))
            rw [HEI.out] at HN2
            have hlz := meant_len (L := L) (q := q.take k) (n := n) (all := false) (name := name)
            have htk : (q.take k).length ≤ 18 := by simp; omega
            have HOA := hide (HO.out.below (below_box wr (.cells #[.int .i64 (i : Int)] 3)))
            have hsz := HL.out.size
            clear HO HS
            generalize meantL L (q.take k) n false name = Z at *
            go_wp2_with (at_builtin; refine wpList_append_own_at _ rfl (.tmp 41) (.tmp 43) 59 rfl w.heap.size 3 i0 (.int .i64 0) 1 8 Tryz.underlying59 hi0 hz0 hz1 hz2 rfl (by decide) _ Z.length (icells Z) rfl HOA.out ⟨_, 0, none⟩ 1 1 [.int .i64 (i : Int)] rfl ?a1 ?a2 ?a3 ?a4 ?a5 ?a6 ?_)
            case a1 => rfl
            case a2 => exact cell_one_new _ _ _
            case a3 => intro u hu; simp at hu; subst hu; rfl
            case a4 => unfold maxLen; omega
            case a5 => omega
            case a6 => simp; omega
            intro v' w2 hoo hg _ _
            have A : Hid (OwnI w.heap.size w2 v' (Z ++ [(i : Int)])) := by
              show w2.ownsRow _ _ _ _ _ _
              simpa [icells] using hoo
            have B : Hid (Below w.heap.size w w2) := (HL.out.alloc hsz _).grown hg (by simp; omega) (fun j hj => (HOA.out.lt j (by simpa using hj)).1)
            obtain ⟨av', cap', rfl⟩ := A.out.shape
            clear hoo hg
            go_wp2
            go_roundw
            case rel => exact ⟨k + 1, by omega, rfl, m', (by first | rfl | rw [hw']), HMM.out, by rw [HN2.out]; exact A.out, B.out⟩
            case measure => simp [intOf]; omega
          | false =>
            have hz0' : (m' == 0) = false := by simpa using hz
            have hzz : m' ≠ 0 := by simpa using hz
            have HN2 := hide (meant_miss (L := L) (q := q) (n := n) (name := name) hkq HF.out (fun e => hzz (mm_eq (L := L) (name := name) hkq HF.out HMM.out e)))
            clear hzz hz HS
            go_wp2
            go_roundw
            case rel => exact ⟨k + 1, by omega, rfl, m', (by first | rfl | rw [hw']), HMM.out, by rw [HN2.out]; exact HO.out, HL.out⟩
            case measure => simp [intOf]; omega
      | false =>
        have he : name.toList.isEmpty = false := by rw [empty_iff]; exact hx
        cases hy : decide (L.tname i = name) with
        | true =>
          have hyl : (name.toList == (L.tname i).toList) = true := by rw [toList_eq]; simpa using (by simpa using hy : L.tname i = name).symm
          have HF := hide (show fits L name (q.getD k 0) = true by unfold fits; rw [hx, HEI.out, Int.toNat_natCast, hy]; rfl)
          clear hx hy
          obtain ⟨m', hw'⟩ : ∃ m', wrap64 (m - 1) = m' := ⟨_, rfl⟩
          have HMM := hide (mm_next (L := L) (name := name) hkq HF.out HM.out hw')
          cases ha : all with
          | true =>
            subst ha
            have HN2 := hide (meant_hit (L := L) (q := q) (n := n) (all := true) (name := name) hkq HF.out (.inl rfl))
            rw [HEI.out] at HN2
            have hlz := meant_len (L := L) (q := q.take k) (n := n) (all := true) (name := name)
            have htk : (q.take k).length ≤ 18 := by simp; omega
            have HOA := hide (HO.out.below (below_box wr (.cells #[.int .i64 (i : Int)] 3)))
            have hsz := HL.out.size
            clear HO HS
            generalize meantL L (q.take k) n true name = Z at *
            go_wp2_with (at_builtin; refine wpList_append_own_at _ rfl (.tmp 41) (.tmp 43) 59 rfl w.heap.size 3 i0 (.int .i64 0) 1 8 Tryz.underlying59 hi0 hz0 hz1 hz2 rfl (by decide) _ Z.length (icells Z) rfl HOA.out ⟨_, 0, none⟩ 1 1 [.int .i64 (i : Int)] rfl ?a1 ?a2 ?a3 ?a4 ?a5 ?a6 ?_)
            case a1 => rfl
            case a2 => exact cell_one_new _ _ _
            case a3 => intro u hu; simp at hu; subst hu; rfl
            case a4 => unfold maxLen; omega
            case a5 => omega
            case a6 => simp; omega
            intro v' w2 hoo hg _ _
            have A : Hid (OwnI w.heap.size w2 v' (Z ++ [(i : Int)])) := by
              show w2.ownsRow _ _ _ _ _ _
              simpa [icells] using hoo
            have B : Hid (Below w.heap.size w w2) := (HL.out.alloc hsz _).grown hg (by simp; omega) (fun j hj => (HOA.out.lt j (by simpa using hj)).1)
            obtain ⟨av', cap', rfl⟩ := A.out.shape
            clear hoo hg
            go_wp2
            go_roundw
            case rel => exact ⟨k + 1, by omega, rfl, m', (by first | rfl | rw [hw']), HMM.out, by rw [HN2.out]; exact A.out, B.out⟩
            case measure => simp [intOf]; omega
          | false =>
            subst ha
            cases hz : decide (m' = 0) with
            | true =>
              have hz0' : (m' == 0) = true := by simpa using hz
              have hzz : m' = 0 := by simpa using hz
              have HW := hide (mm_zero (L := L) (name := name) hkq HF.out hlen hn0 hn1 HMM.out hzz)
              clear hzz hz
              have HN2 := hide (meant_hit (L := L) (q := q) (n := n) (all := false) (name := name) hkq HF.out (.inr HW.out))
              rw [HEI.out] at HN2
              have hlz := meant_len (L := L) (q := q.take k) (n := n) (all := false) (name := name)
              have htk : (q.take k).length ≤ 18 := by simp; omega
              have HOA := hide (HO.out.below (below_box wr (.cells #[.int .i64 (i : Int)] 3)))
              have hsz := HL.out.size
              clear HO HS
              generalize meantL L (q.take k) n false name = Z at *
              go_wp2_with (at_builtin; refine wpList_append_own_at _ rfl (.tmp 41) (.tmp 43) 59 rfl w.heap.size 3 i0 (.int .i64 0) 1 8 Tryz.underlying59 hi0 hz0 hz1 hz2 rfl (by decide) _ Z.length (icells Z) rfl HOA.out ⟨_, 0, none⟩ 1 1 [.int .i64 (i : Int)] rfl ?a1 ?a2 ?a3 ?a4 ?a5 ?a6 ?_)
              case a1 => rfl
              case a2 => exact cell_one_new _ _ _
              case a3 => intro u hu; simp at hu; subst hu; rfl
              case a4 => unfold maxLen; omega
              case a5 => omega
              case a6 => simp; omega
              intro v' w2 hoo hg _ _
              have A : Hid (OwnI w.heap.size w2 v' (Z ++ [(i : Int)])) := by
                show w2.ownsRow _ _ _ _ _ _
                simpa [icells] using hoo
              have B : Hid (Below w.heap.size w w2) := (HL.out.alloc hsz _).grown hg (by simp; omega) (fun j hj => (HOA.out.lt j (by simpa using hj)).1)
              obtain ⟨av', cap', rfl⟩ := A.out.shape
              clear hoo hg
              go_wp2
              go_roundw
              case rel => exact ⟨k + 1, by omega, rfl, m', (by first | rfl | rw [hw']), HMM.out, by rw [HN2.out]; exact A.out, B.out⟩
              case measure => simp [intOf]; omega
            | false =>
              have hz0' : (m' == 0) = false := by simpa using hz
              have hzz : m' ≠ 0 := by simpa using hz
              have HN2 := hide (meant_miss (L := L) (q := q) (n := n) (name := name) hkq HF.out (fun e => hzz (mm_eq (L := L) (name := name) hkq HF.out HMM.out e)))
              clear hzz hz HS
              go_wp2
              go_roundw
              case rel => exact ⟨k + 1, by omega, rfl, m', (by first | rfl | rw [hw']), HMM.out, by rw [HN2.out]; exact HO.out, HL.out⟩
              case measure => simp [intOf]; omega
        | false =>
          have hyl : (name.toList == (L.tname i).toList) = false := by
            rw [toList_eq]
            have : L.tname i ≠ name := by simpa using hy
            simpa using fun e => this e.symm
          have HF := hide (show fits L name (q.getD k 0) = false by unfold fits; rw [hx, HEI.out, Int.toNat_natCast, hy]; rfl)
          have HN2 := hide (meant_skip (L := L) (q := q) (n := n) (all := all) (name := name) hkq HF.out)
          have HMM := hide (mm_skip (L := L) (name := name) hkq HF.out HM.out)
          clear hx hy HS
          go_wp2
          go_roundw
          case rel => exact ⟨k + 1, by omega, rfl, m, rfl, HMM.out, by rw [HN2.out]; exact HO.out, HL.out⟩
          case measure => simp [intOf]; omega
    · have hkn : k = ln := by omega
      subst hkn
      have hall : q.take k = q := by rw [← HNn.out]; exact List.take_length
      rw [hall] at HO
      rw [hall]
      clear hall
      go_wp2
      go_ret
      exact ⟨_, rfl, HO.out, HL.out⟩
/-
  The document's own turn: which box a word means: the contract.
-/
theorem NumK.head {g o : Nat} {w : World} {av : Option Addr} {n cap : Nat} {x : Int} {r : List Int} (h : NumK g o w (.slice av n cap) (x :: r)) : ∃ bq off, av = some ⟨bq, off, none⟩ ∧ n = r.length + 1 ∧ w.cell? ⟨bq, off, none⟩ = some (.int .i64 x) := by
  obtain ⟨b, off, cap', e, hc⟩ := h.cell (k := 0) (by simp)
  injection e with e1 e2 e3
  exact ⟨b, off, e1, e2, by simpa using hc⟩

set_option maxRecDepth 100000 in
set_option maxHeartbeats 4000000 in
theorem boxof_any {w0 : World} {L : Ld} {Es : List Ev} {w : World} {b : Nat} (hS : Sn 52 [.int .i64 (b : Int)] w0 L Es w) (hb : b < 6) (word : ByteArray) (hs : word.size ≤ 8796093022207) (hlen : Es.length ≤ 1000000) :
    Calls Tryz.prog 51 #[.pointer (some ⟨w0.heap.size, 0, none⟩), .string word] w fun e w' =>
      (∃ i, (boxL L b word).1 = some i ∧ e = .returned (.int .i64 (i : Int)) ∧ Sn 52 [.int .i64 (b : Int)] w0 L Es w' ∧ Stp w0.heap.size 166 w w') ∨
      ((boxL L b word).1 = none ∧ e = .returned (.int .i64 (-1)) ∧ Sn 52 [.int .i64 (b : Int)] w0 L (Es ++ [tellE L b (boxL L b word).2]) w' ∧ Stp w0.heap.size 166 w w') := by
  obtain ⟨i0, hi0, hz0, hz1, hz2⟩ := info_parts Tryz.info3
  go_enter Tryz.func51, Tryz.ntmps51
  go_wp2_with fail
  refine (refnoun_any word _ hs).mono ?_
  rintro e w1 ⟨rfl, hb1⟩
  have S1 := hide (hS.below hb1)
  have T1 := hide (hS.stp hb1 166)
  clear hb1 hS
  cases hx : nounL word.data.toList with
  | none =>
    have HV := hide (show boxL L b word = (none, noThingS) by unfold boxL; rw [hx])
    clear hx
    unfold nounA
    simp only
    go_wp2_with fail
    go_quiet (fail)
    have S6 := hide (S1.out.drewN nq)
    have T6 := hide (T1.out.trans (S1.out.stp (below_drewN (Below.refl _ _) nq) 166))
    go_wp2_with fail
    refine (ttell_any S6.out hb _ hlen).mono ?_
    rintro e wt ⟨rfl, Sth, Tth⟩
    have St := hide Sth
    have Tt := hide (T6.out.trans Tth)
    clear Sth Tth
    go_wp2
    go_ret
    exact .inr ⟨by rw [HV.out], rfl, by rw [HV.out]; exact St.out, Tt.out⟩
  | some rr =>
    obtain ⟨n, name, every⟩ := rr
    have hn99 := num_of hx
    cases every with
    | true =>
      have HV := hide (show boxL L b word = (none, noThingS) by unfold boxL; rw [hx]; rfl)
      clear hx
      unfold nounA
      simp only
      go_wp2_with fail
      go_quiet (fail)
      have S6 := hide (S1.out.drewN nq)
      have T6 := hide (T1.out.trans (S1.out.stp (below_drewN (Below.refl _ _) nq) 166))
      go_wp2_with fail
      refine (ttell_any S6.out hb _ hlen).mono ?_
      rintro e wt ⟨rfl, Sth, Tth⟩
      have St := hide Sth
      have Tt := hide (T6.out.trans Tth)
      clear Sth Tth
      go_wp2
      go_ret
      exact .inr ⟨by rw [HV.out], rfl, by rw [HV.out]; exact St.out, Tt.out⟩
    | false =>
      have HX := hide hx
      clear hx
      unfold nounA
      simp only
      have hrl := reach_len L b
      go_wp2_with fail
      refine (tmine_any S1.out).mono ?_
      rintro e w2 ⟨v1, rfl, ho1, hb1⟩
      have S2 := hide (S1.out.below hb1)
      have B2 := hide hb1
      have O2 := hide ho1
      obtain ⟨av1, cap1, rfl⟩ := ho1.shape
      clear ho1 hb1
      go_wp2_with fail
      refine (insight_any S2.out hb).mono ?_
      rintro e w3 ⟨v2, rfl, ho2, hb2⟩
      have B3 := hide (B2.out.trans (hb2.mono B2.out.size))
      have O3 := hide (O2.out.below hb2)
      have hl1 := hand_len L b
      have hl2 := sight_len L b
      have HR := hide (show reachL L b = handL L b ++ sightL L b from rfl)
      have hz := B3.out.size
      generalize handL L b = q1 at *
      rcases ho2.2 with ⟨rfl, h0⟩ | ⟨g, cap2, cur, rfl, h1, h2, h3, h4, h5, h6⟩
      · have hq : sightL L b = [] := List.eq_nil_of_length_eq_zero h0
        rw [hq, List.append_nil] at HR
        have NX := hide (numk_own S1.out B3.out O3.out)
        have SX := hide (S1.out.below B3.out)
        have TX := hide (T1.out.trans (S1.out.stp B3.out 166))
        clear h0 hq ho2 hb2 S2 B2 O2 S1 T1
        go_wp2_with (refine wl_append_none (.tmp 25) (.tmp 27) rfl rfl w1.heap.size _ q1 rfl O3.out rfl ?_)
        rw [← HR.out] at NX ⊢
        clear O3 B3
        go_wp2_with fail
        refine (these_any SX.out NX.out (fun x hx => reach_lt hx) hrl (n : Int) (by omega) (by omega) (bs name) false).mono ?_
        rintro e w5 ⟨v5, rfl, ho5, hb5⟩
        have S5 := hide (SX.out.below hb5)
        have T5 := hide (TX.out.trans (SX.out.stp hb5 166))
        have N5 := hide (numk_own SX.out hb5 ho5)
        obtain ⟨av5, cap5, rfl⟩ := ho5.shape
        have HM := hide (fun x (hx : x ∈ meantL L (reachL L b) (n : Int) false (bs name)) => reach_lt (meant_mem hx))
        clear ho5 hb5 SX TX NX
        generalize hq : meantL L (reachL L b) (n : Int) false (bs name) = q at *
        have HQ := hide hq
        clear hq
        cases q with
        | nil =>
          have HV := hide (show boxL L b word = (none, noThingS) by unfold boxL; rw [HX.out]; simp only [Bool.false_eq_true, if_false]; rw [HQ.out])
          simp only [List.length_nil]
          clear N5
          go_wp2_with fail
          go_quiet (fail)
          have S6 := hide (S5.out.drewN nq)
          have T6 := hide (T5.out.trans (S5.out.stp (below_drewN (Below.refl _ _) nq) 166))
          go_wp2_with fail
          refine (ttell_any S6.out hb _ hlen).mono ?_
          rintro e wt ⟨rfl, Sth, Tth⟩
          have St := hide Sth
          have Tt := hide (T6.out.trans Tth)
          clear Sth Tth
          go_wp2
          go_ret
          exact .inr ⟨by rw [HV.out], rfl, by rw [HV.out]; exact St.out, Tt.out⟩
        | cons x r =>
          obtain ⟨i, rfl, hi⟩ := HM.out x (List.mem_cons_self ..)
          obtain ⟨bq, off, rfl, _, hcell⟩ := N5.out.head
          have c1 := S5.out.thing i 1 hi (by omega)
          have c4 := S5.out.thing i 4 hi (by omega)
          simp only [Ld.thingCell] at c1 c4
          have hii : (i : Int) < 9 := by omega
          have HB := hide (show boxL L b word = if L.kind i = 3 then (if L.on i = true then (some i, ⟨#[]⟩) else (none, shutS)) else (none, noThingS) by unfold boxL; rw [HX.out]; simp only [Bool.false_eq_true, if_false]; rw [HQ.out]; simp only [Int.toNat_natCast])
          simp only [List.length_cons]
          generalize r.length = m
          have hzi : (((m + 1 : Nat) : Int) == 0) = false := by simp; omega
          clear N5 HM
          cases hk : (L.kind i != 3) with
          | true =>
            have HV := hide (show boxL L b word = (none, noThingS) by rw [HB.out, if_neg (by simpa using hk)])
            go_wp2_with fail
            go_quiet (fail)
            have S6 := hide (S5.out.drewN nq)
            have T6 := hide (T5.out.trans (S5.out.stp (below_drewN (Below.refl _ _) nq) 166))
            go_wp2_with fail
            refine (ttell_any S6.out hb _ hlen).mono ?_
            rintro e wt ⟨rfl, Sth, Tth⟩
            have St := hide Sth
            have Tt := hide (T6.out.trans Tth)
            clear Sth Tth
            go_wp2
            go_ret
            exact .inr ⟨by rw [HV.out], rfl, by rw [HV.out]; exact St.out, Tt.out⟩
          | false =>
            have HB2 := hide (show boxL L b word = if L.on i = true then (some i, ⟨#[]⟩) else (none, shutS) by rw [HB.out, if_pos (by simpa using hk)])
            go_wp2_with fail
            go_quiet (fail)
            have S6 := hide (S5.out.drewN nq)
            have T6 := hide (T5.out.trans (S5.out.stp (below_drewN (Below.refl _ _) nq) 166))
            have hcell6 : (w5.drewN nq).cell? ⟨bq, off, none⟩ = some (.int .i64 (i : Int)) := hcell
            have c46 := S6.out.thing i 4 hi (by omega)
            simp only [Ld.thingCell] at c46
            clear hcell c1 c4 S5 T5
            generalize w5.drewN nq = w6 at S6 T6 hcell6 c46 ⊢
            cases ho : L.on i with
            | false =>
              have HV := hide (show boxL L b word = (none, shutS) by rw [HB2.out, if_neg (by simp [ho])])
              rw [ho] at c46
              go_wp2_with fail
              go_quiet (fail)
              have S7 := hide (S6.out.drewN nq)
              have T7 := hide (T6.out.trans (S6.out.stp (below_drewN (Below.refl _ _) nq) 166))
              go_wp2_with fail
              refine (ttell_any S7.out hb _ hlen).mono ?_
              rintro e wt ⟨rfl, Sth, Tth⟩
              have St := hide Sth
              have Tt := hide (T7.out.trans Tth)
              clear Sth Tth
              go_wp2
              go_ret
              exact .inr ⟨by rw [HV.out], rfl, by rw [HV.out]; exact St.out, Tt.out⟩
            | true =>
              have HV := hide (show boxL L b word = (some i, ⟨#[]⟩) by rw [HB2.out, if_pos ho])
              rw [ho] at c46
              go_wp2_with fail
              go_quiet (fail)
              have S7 := hide (S6.out.drewN nq)
              have T7 := hide (T6.out.trans (S6.out.stp (below_drewN (Below.refl _ _) nq) 166))
              have hcell7 : (w6.drewN nq).cell? ⟨bq, off, none⟩ = some (.int .i64 (i : Int)) := hcell6
              clear hcell6 c46
              go_wp2
              go_ret
              exact .inl ⟨i, by rw [HV.out], rfl, S7.out, T7.out⟩
      · have HC := hide (show ∀ j u, (icells (sightL L b))[j]? = some u → w3.cell? ((⟨g, 0, none⟩ : Addr).add j) = some u from ho2.cells rfl)
        clear ho2 hb2 S2 B2 O2 h1 h2 h3 h4 h5 h6
        generalize sightL L b = q2 at *
        go_wp2_with (at_builtin; refine wpList_append_own_at _ rfl (.tmp 25) (.tmp 27) 59 rfl w1.heap.size 3 i0 (.int .i64 0) 1 8 Tryz.underlying59 hi0 hz0 hz1 hz2 rfl (by decide) _ q1.length (icells q1) rfl O3.out ⟨g, 0, none⟩ q2.length cap2 (icells q2) rfl ?a1 HC.out ?a3 ?a4 ?a5 ?a6 ?_)
        case a1 => simp [icells_length]
        case a3 => intro u hu; simp only [icells, List.mem_map] at hu; obtain ⟨n, _, rfl⟩ := hu; rfl
        case a4 => unfold maxLen; omega
        case a5 => omega
        case a6 => exact hz
        intro v' w4 hoo hg _ _
        have A : Hid (OwnI w1.heap.size w4 v' (q1 ++ q2)) := by
          show w4.ownsRow _ _ _ _ _ _
          simpa [icells] using hoo
        have B : Hid (Below w1.heap.size w1 w4) := B3.out.grown hg hz (fun k hk => (O3.out.lt k (by simpa using hk)).1)
        have NX := hide (numk_own S1.out B.out A.out)
        have SX := hide (S1.out.below B.out)
        have TX := hide (T1.out.trans (S1.out.stp B.out 166))
        rw [← HR.out] at NX
        have hAv : ∃ av cap, v' = .slice av (reachL L b).length cap := by rw [HR.out]; exact A.out.shape
        obtain ⟨av', cap', rfl⟩ := hAv
        clear hoo hg A B O3 B3 S1 T1 HC
        go_wp2_with fail
        refine (these_any SX.out NX.out (fun x hx => reach_lt hx) hrl (n : Int) (by omega) (by omega) (bs name) false).mono ?_
        rintro e w5 ⟨v5, rfl, ho5, hb5⟩
        have S5 := hide (SX.out.below hb5)
        have T5 := hide (TX.out.trans (SX.out.stp hb5 166))
        have N5 := hide (numk_own SX.out hb5 ho5)
        obtain ⟨av5, cap5, rfl⟩ := ho5.shape
        have HM := hide (fun x (hx : x ∈ meantL L (reachL L b) (n : Int) false (bs name)) => reach_lt (meant_mem hx))
        clear ho5 hb5 SX TX NX
        generalize hq : meantL L (reachL L b) (n : Int) false (bs name) = q at *
        have HQ := hide hq
        clear hq
        cases q with
        | nil =>
          have HV := hide (show boxL L b word = (none, noThingS) by unfold boxL; rw [HX.out]; simp only [Bool.false_eq_true, if_false]; rw [HQ.out])
          simp only [List.length_nil]
          clear N5
          go_wp2_with fail
          go_quiet (fail)
          have S6 := hide (S5.out.drewN nq)
          have T6 := hide (T5.out.trans (S5.out.stp (below_drewN (Below.refl _ _) nq) 166))
          go_wp2_with fail
          refine (ttell_any S6.out hb _ hlen).mono ?_
          rintro e wt ⟨rfl, Sth, Tth⟩
          have St := hide Sth
          have Tt := hide (T6.out.trans Tth)
          clear Sth Tth
          go_wp2
          go_ret
          exact .inr ⟨by rw [HV.out], rfl, by rw [HV.out]; exact St.out, Tt.out⟩
        | cons x r =>
          obtain ⟨i, rfl, hi⟩ := HM.out x (List.mem_cons_self ..)
          obtain ⟨bq, off, rfl, _, hcell⟩ := N5.out.head
          have c1 := S5.out.thing i 1 hi (by omega)
          have c4 := S5.out.thing i 4 hi (by omega)
          simp only [Ld.thingCell] at c1 c4
          have hii : (i : Int) < 9 := by omega
          have HB := hide (show boxL L b word = if L.kind i = 3 then (if L.on i = true then (some i, ⟨#[]⟩) else (none, shutS)) else (none, noThingS) by unfold boxL; rw [HX.out]; simp only [Bool.false_eq_true, if_false]; rw [HQ.out]; simp only [Int.toNat_natCast])
          simp only [List.length_cons]
          generalize r.length = m
          have hzi : (((m + 1 : Nat) : Int) == 0) = false := by simp; omega
          clear N5 HM
          cases hk : (L.kind i != 3) with
          | true =>
            have HV := hide (show boxL L b word = (none, noThingS) by rw [HB.out, if_neg (by simpa using hk)])
            go_wp2_with fail
            go_quiet (fail)
            have S6 := hide (S5.out.drewN nq)
            have T6 := hide (T5.out.trans (S5.out.stp (below_drewN (Below.refl _ _) nq) 166))
            go_wp2_with fail
            refine (ttell_any S6.out hb _ hlen).mono ?_
            rintro e wt ⟨rfl, Sth, Tth⟩
            have St := hide Sth
            have Tt := hide (T6.out.trans Tth)
            clear Sth Tth
            go_wp2
            go_ret
            exact .inr ⟨by rw [HV.out], rfl, by rw [HV.out]; exact St.out, Tt.out⟩
          | false =>
            have HB2 := hide (show boxL L b word = if L.on i = true then (some i, ⟨#[]⟩) else (none, shutS) by rw [HB.out, if_pos (by simpa using hk)])
            go_wp2_with fail
            go_quiet (fail)
            have S6 := hide (S5.out.drewN nq)
            have T6 := hide (T5.out.trans (S5.out.stp (below_drewN (Below.refl _ _) nq) 166))
            have hcell6 : (w5.drewN nq).cell? ⟨bq, off, none⟩ = some (.int .i64 (i : Int)) := hcell
            have c46 := S6.out.thing i 4 hi (by omega)
            simp only [Ld.thingCell] at c46
            clear hcell c1 c4 S5 T5
            generalize w5.drewN nq = w6 at S6 T6 hcell6 c46 ⊢
            cases ho : L.on i with
            | false =>
              have HV := hide (show boxL L b word = (none, shutS) by rw [HB2.out, if_neg (by simp [ho])])
              rw [ho] at c46
              go_wp2_with fail
              go_quiet (fail)
              have S7 := hide (S6.out.drewN nq)
              have T7 := hide (T6.out.trans (S6.out.stp (below_drewN (Below.refl _ _) nq) 166))
              go_wp2_with fail
              refine (ttell_any S7.out hb _ hlen).mono ?_
              rintro e wt ⟨rfl, Sth, Tth⟩
              have St := hide Sth
              have Tt := hide (T7.out.trans Tth)
              clear Sth Tth
              go_wp2
              go_ret
              exact .inr ⟨by rw [HV.out], rfl, by rw [HV.out]; exact St.out, Tt.out⟩
            | true =>
              have HV := hide (show boxL L b word = (some i, ⟨#[]⟩) by rw [HB2.out, if_pos ho])
              rw [ho] at c46
              go_wp2_with fail
              go_quiet (fail)
              have S7 := hide (S6.out.drewN nq)
              have T7 := hide (T6.out.trans (S6.out.stp (below_drewN (Below.refl _ _) nq) 166))
              have hcell7 : (w6.drewN nq).cell? ⟨bq, off, none⟩ = some (.int .i64 (i : Int)) := hcell6
              clear hcell6 c46
              go_wp2
              go_ret
              exact .inl ⟨i, by rw [HV.out], rfl, S7.out, T7.out⟩
end Go.Proofs.YtaifjndkgfffpaaGreatDoor
