/-
  The contract of the document's own FeedText.
-/
import Derived.Test.YtpbadpebnhlmlabRefC
import Derived.Deep.RegionHeld3
namespace Go.Proofs.Ytpbadpebnhlmlab
open Go.RowKit
set_option linter.unusedVariables false

set_option maxRecDepth 100000 in
set_option maxHeartbeats 1000000 in
theorem reffeed_bad (L : Lin) (v : Value) (s : ByteArray) (w : World) (hv : Reads w v L.q) (hs : Small L) (hg : good L = false) :
    Calls Try.prog 9 #[.agg (L.cells v), .string s] w fun e w' => ∃ v', e = .returned (.tuple #[.agg (L.cells v'), .int .i64 0, .int .i64 2]) ∧ Reads w' v' L.q ∧ Below w.heap.size w w' := by
  have hv1 := hide hv
  have hg' := hide hg
  have C1 := hide (fun w' h => good12 L v w' h hs)
  obtain ⟨av, cap, rfl⟩ := hv.shape
  clear hg hs hv
  unfold Lin.cells at C1 ⊢
  go_enter Try.func9, Try.ntmps9
  go_wp2_with fail
  refine (C1.out _ ((hv1.out.alloc _).alloc _)).mono ?_
  rintro e w1 ⟨rfl, hb1⟩
  rw [hg'.out]
  have hr1 : Reads w1 (.slice av L.q.length cap) L.q := ((hv1.out.alloc _).alloc _).below hb1 (Nat.le_refl _)
  have hz1 := hb1.size
  simp only [World.size_alloc] at hz1
  have k1 : Cod w1 w.heap.size L (.slice av L.q.length cap) := by
    show w1.heap[w.heap.size]? = _
    rw [hb1.block _ (by simp; omega), Below.heap_alloc _ _ _ (by simp)]
    exact heap_alloc_new w _
  have o1 : Cod w1 (w.heap.size + 1) zl (.slice none 0 0) := by
    show w1.heap[w.heap.size + 1]? = _
    rw [hb1.block _ (by simp)]
    have := heap_alloc_new (w.alloc (.cells (L.cells (.slice av L.q.length cap)) 24)) (.cells (zl.cells (.slice none 0 0)) 24)
    rw [World.size_alloc] at this
    exact this
  have hoff : 0 < L.q.length → ∀ b off n c, Value.slice av L.q.length cap = .slice (some ⟨b, off, none⟩) n c → b ≠ w.heap.size + 1 := fun h0 b off n c e => by have := hv1.out.lt h0 b off n c e; omega
  obtain ⟨c0, c1, c2, c3, hfz⟩ := k1.all
  obtain ⟨d0, d1, d2, d3, hfd⟩ := o1.all
  have l1 : Below w.heap.size w w1 := (((Below.refl _ _).alloc (Nat.le_refl _) _).alloc (by simp) _).trans (hb1.mono (by simp; omega))
  have HH := hide (⟨hr1, o1, l1, hoff⟩ : _ ∧ _ ∧ _ ∧ _)
  clear k1 o1 l1 hb1 hr1 hoff
  go_wp2
  obtain ⟨hr1, o1, l1, hoff⟩ := HH.out
  exact bodyPost_ret (res3 Try.results9 rfl rfl rfl (cod_four (L := L) o1)) rfl ⟨_, rfl, (((hr1.put hoff _ _).put hoff _ _).put hoff _ _).put hoff _ _, below_four l1 (by omega)⟩

/-- The relation at a round's head: k bytes are through. -/
structure RelT (w0 : World) (b : Nat) (o : Obj) (g : Nat) (L0 : Lin) (s : ByteArray) (k : Nat) (L : Lin) (n : Nat) (v : Value) (wr : World) : Prop where
  le : k ≤ s.size
  eq : feedL L0 (s.data.toList.take k) = (L, n)
  fine : Fine L
  inv : TInv w0 b o g n L v wr

section
variable {w0 wr w' : World} {b g : Nat} {o o' : Obj} {L0 L L' : Lin} {s : ByteArray} {k n m : Nat} {v v' : Value}

theorem RelT.count (h : RelT w0 b o g L0 s k L n v wr) : n ≤ k := by
  have h1 := feed_le L0 (s.data.toList.take k)
  rw [h.eq] at h1
  have h2 : (s.data.toList.take k).length ≤ k := by simp; omega
  simp only at h1
  omega

theorem RelT.next (h : RelT w0 b o g L0 s k L n v wr) (hk : k < s.size) (hs : step L s[k] = (L', m)) (hi : TInv w0 b o' g (n + m) L' v' w') :
    RelT w0 b o' g L0 s (k + 1) L' (n + m) v' w' := by
  refine ⟨hk, ?_, ?_, hi⟩
  · rw [take_snoc s k hk, feedL_append, h.eq]
    simp only [feedL, hs, Nat.add_zero]
  · have := fine_step h.fine s[k]; rw [hs] at this; exact this
end

theorem own_below {w w' : World} {base B : Nat} {v : Value} {n : Nat} {xs : List Value} (h : w.ownsRow base 9 1 v n xs) (hb : Below B w w') (hB : w.heap.size ≤ B) : w'.ownsRow base 9 1 v n xs := by
  refine ⟨h.1, ?_⟩
  have hlt := h.lt
  rcases h.2 with h0 | ⟨g, cap, cur, rfl, h2, h3, h4⟩
  · exact .inl h0
  · refine .inr ⟨g, cap, cur, rfl, h2, ?_, h4⟩
    rw [hb.block _ (by have := (hlt g rfl).2; omega)]; exact h3

theorem TInv.behind {w0 wr w' : World} {b g n : Nat} {o : Obj} {L : Lin} {v : Value} {B : Nat} (h : TInv w0 b o g n L v wr) (hb : Below B wr w') (hB : wr.heap.size ≤ B) : TInv w0 b o g n L v w' := by
  have hr := h.inv.room
  have hlo := h.inv.lo
  have hg := h.cell.2.2
  refine ⟨⟨hlo, h.inv.below.trans (hb.mono (by omega)), ?_, ?_, own_below h.inv.own hb hB⟩, ?_, h.hi, h.sep⟩
  · unfold Cod; rw [hb.block _ (by omega)]; exact h.inv.cod
  · rw [hb.block _ (by omega)]; exact h.inv.other
  · rw [hb.block _ (by omega)]; exact h.lost

theorem TInv.drew {w0 wr : World} {b g n : Nat} {o : Obj} {L : Lin} {v : Value} (h : TInv w0 b o g n L v wr) : TInv w0 b o g n L v wr.drew :=
  h.behind (Below.refl wr.heap.size wr).drew (Nat.le_refl _)

theorem tinv_start {w w2 : World} {L : Lin} {v v2 : Value} {o : Obj} (l2 : Below w.heap.size w w2) (k2 : Cod w2 w.heap.size L v) (o2 : w2.heap[w.heap.size + 1]? = some o) (ho : w2.ownsRow (w.heap.size + 2) 9 1 v2 L.q.length (scells L.q)) :
    TInv w w.heap.size o w2.heap.size 0 L v2 (((((w2.setCell ⟨w.heap.size, 0, none⟩ (.string L.now)).setCell ⟨w.heap.size, 1, none⟩ (.bool L.long)).setCell ⟨w.heap.size, 2, none⟩ (.bool L.ret)).setCell ⟨w.heap.size, 3, none⟩ v2).alloc (.cells #[.int .i64 0] 3)) := by
  have hz := (Array.getElem?_eq_some_iff.1 o2).1
  have hsz : ((((w2.setCell ⟨w.heap.size, 0, none⟩ (.string L.now)).setCell ⟨w.heap.size, 1, none⟩ (.bool L.long)).setCell ⟨w.heap.size, 2, none⟩ (.bool L.ret)).setCell ⟨w.heap.size, 3, none⟩ v2).heap.size = w2.heap.size := by simp [World.setCell]
  have hF : FInv w w.heap.size o L v2 ((((w2.setCell ⟨w.heap.size, 0, none⟩ (.string L.now)).setCell ⟨w.heap.size, 1, none⟩ (.bool L.long)).setCell ⟨w.heap.size, 2, none⟩ (.bool L.ret)).setCell ⟨w.heap.size, 3, none⟩ v2) := by
    refine ⟨Nat.le_refl _, below_four l2 (Nat.le_refl _), cod_four k2, ?_, ho.kept grown_four ?_⟩
    · exact cod_ne (cod_ne (cod_ne (cod_ne o2 (by omega) _ _) (by omega) _ _) (by omega) _ _) (by omega) _ _
    · right; intro e; have := ho.lt _ e; omega
  refine ⟨hF.alloc _, ?_, by omega, ?_⟩
  · have := heap_alloc_new ((((w2.setCell ⟨w.heap.size, 0, none⟩ (.string L.now)).setCell ⟨w.heap.size, 1, none⟩ (.bool L.long)).setCell ⟨w.heap.size, 2, none⟩ (.bool L.ret)).setCell ⟨w.heap.size, 3, none⟩ v2) (.cells #[.int .i64 0] 3)
    rw [hsz] at this
    exact this
  · intro e; have := (ho.lt _ e).2; omega

set_option maxRecDepth 100000 in
set_option maxHeartbeats 16000000 in
theorem reffeed_good (L : Lin) (v : Value) (s : ByteArray) (w : World) (hv : Reads w v L.q) (hf : Fine L) (hsz : s.size ≤ maxLen) :
    Calls Try.prog 9 #[.agg (L.cells v), .string s] w fun e w' => ∃ v', e = .returned (.tuple #[.agg ((feedL L s.data.toList).1.cells v'), .int .i64 (feedL L s.data.toList).2, .int .i64 0]) ∧ Reads w' v' (feedL L s.data.toList).1.q ∧ Below w.heap.size w w' := by
  have hs := small_of hf
  have hq : L.q.length ≤ 8796093022208 := by have := hf.len; omega
  have hv1 := hide hv
  have HF := hide hf
  have hg' := hide ((fine_iff L).2 hf)
  have C1 := hide (fun w' h => good12 L v w' h hs)
  have C2 := hide (fun w' h => copy_any L v w' h hq)
  obtain ⟨av, cap, rfl⟩ := hv.shape
  unfold maxLen at hsz
  clear hs hf hv
  unfold Lin.cells at C1 C2 ⊢
  go_enter Try.func9, Try.ntmps9
  go_wp2_with fail
  refine (C1.out _ ((hv1.out.alloc _).alloc _)).mono ?_
  rintro e w1 ⟨rfl, hb1⟩
  rw [hg'.out]
  have hr1 : Reads w1 (.slice av L.q.length cap) L.q := ((hv1.out.alloc _).alloc _).below hb1 (Nat.le_refl _)
  have k1 : Cod w1 w.heap.size L (.slice av L.q.length cap) := by
    show w1.heap[w.heap.size]? = _
    rw [hb1.block _ (by simp; omega), Below.heap_alloc _ _ _ (by simp)]
    exact heap_alloc_new w _
  obtain ⟨c0, c1, c2, c3, hfz⟩ := k1.all
  have hz1 := k1.lt
  replace hr1 := hide hr1
  go_wp2_with fail
  refine (C2.out w1 hr1.out).mono ?_
  rintro e w2 ⟨v2, rfl, ho, hb2⟩
  obtain ⟨av2, cap2, rfl⟩ := own_shape ho
  obtain ⟨l2, k2, o2, hi⟩ := finv_start (L := L) (v := .slice av L.q.length cap) hb1 hb2 (own_base ho (by omega))
  clear c0 c1 c2 c3 hfz k1 hr1
  obtain ⟨c0, c1, c2, c3, hfz⟩ := k2.all
  have hz2 : w.heap.size + 1 < w2.heap.size := (Array.getElem?_eq_some_iff.1 o2).1
  have HT := hide (tinv_start (v2 := .slice av2 L.q.length cap2) l2 k2 o2 (own_base ho (by omega)))
  clear o2 k2 l2 hi ho hb1 hb2
  go_wp2
  go_loopw [9] (fun i wr => ∃ (k n : Nat) (M : Lin) (u : Value), i = .int .i64 k ∧ RelT w w.heap.size (.cells (zl.cells (.slice none 0 0)) 24) w2.heap.size L s k M n u wr) (fun i _ => s.size - (intOf i).toNat)
  case atStart => exact ⟨0, 0, L, _, rfl, Nat.zero_le _, rfl, HF.out, HT.out⟩
  case round =>
    obtain ⟨k, n, M, u, rfl, hR⟩ := hrel
    have hk := hR.le
    have hn := hR.count
    obtain ⟨av3, cap3, rfl⟩ := own_shape hR.inv.inv.own
    clear c0 c1 c2 c3 hfz HT
    obtain ⟨c0, c1, c2, c3, hfz⟩ := hR.inv.inv.cod.all
    obtain ⟨g0, gfz, glt⟩ := hR.inv.cell
    have hroom := hR.inv.inv.room
    have hgw : ¬ w2.heap.size = w.heap.size := by omega
    have hwg : ¬ w.heap.size = w2.heap.size := by omega
    by_cases hlt : k < s.size
    · have hb256 : s[k].toNat < 256 := s[k].toNat_lt
      have hb6 := hR.fine.len
      have hbl : w.heap.size < wr.heap.size := by omega
      have q10 := byte_beq s[k] 10 (by omega)
      have q0 := byte_beq s[k] 0 (by omega)
      have q13 := byte_beq s[k] 13 (by omega)
      have q8 := byte_beq s[k] 8 (by omega)
      have q127 := byte_beq s[k] 127 (by omega)
      simp only [show UInt8.ofNat 10 = 10 from rfl, show UInt8.ofNat 0 = 0 from rfl, show UInt8.ofNat 13 = 13 from rfl, show UInt8.ofNat 8 = 8 from rfl, show UInt8.ofNat 127 = 127 from rfl] at q10 q0 q13 q8 q127
      cases hr : M.ret
      · have hM : ({ M with ret := false } : Lin) = M := by cases M; simp_all
        have hi1 : TInv w w.heap.size (.cells (zl.cells (.slice none 0 0)) 24) w2.heap.size n { M with ret := false } (.slice av3 M.q.length cap3) wr := by rw [hM]; exact hR.inv
        clear hM
        by_cases h13 : s[k] = 13
        · rw [hr] at c2
          have e13 : (((s[k].toNat : Nat) : Int) == (13 : Int)) = true := q13.trans (by simp [h13])
          have HC := hide (end24 w w.heap.size _ w2.heap.size n { M with ret := false } _ _ hi1 hb6 (by omega))
          have HS := hide (show step M s[k] = ({ endL M with ret := true }, if 6 ≤ M.q.length then 1 else 0) by unfold step; rw [if_neg (by simp [hr])]; rw [if_pos (.inl h13)]; simp [h13])
          clear q10 q0 q13 q8 q127 hi1 h13 hr
          go_wp2_with fail
          refine HC.out.mono ?_
          rintro e w3 ⟨rfl, v3, hi3⟩
          have hi4 := hi3.put (L' := { endL M with ret := true }) 2 (.bool true) rfl rfl
          obtain ⟨d0, d1, d2, d3, hfd⟩ := hi3.inv.cod.all
          have hroom3 := hi3.inv.room
          have HR := hide (hR.next hlt HS.out hi4)
          clear hi3 hi4 HS HC hR c0 c1 c2 c3 hfz g0 gfz glt
          go_wp2
          exact ⟨⟨k + 1, _, _, _, by go_num, HR.out⟩, by simp [intOf]; omega⟩
        by_cases h10 : s[k] = 10
        · rw [hr] at c2
          have e13 : (((s[k].toNat : Nat) : Int) == (13 : Int)) = false := q13.trans (by simp [h13])
          have e10 : (((s[k].toNat : Nat) : Int) == (10 : Int)) = true := q10.trans (by simp [h10])
          have HC := hide (end24 w w.heap.size _ w2.heap.size n { M with ret := false } _ _ hi1 hb6 (by omega))
          have HS := hide (show step M s[k] = ({ endL M with ret := false }, if 6 ≤ M.q.length then 1 else 0) by unfold step; rw [if_neg (by simp [hr])]; rw [if_pos (.inr h10)]; simp [h10])
          clear q10 q0 q13 q8 q127 hi1 h13 h10 hr
          go_wp2_with fail
          refine HC.out.mono ?_
          rintro e w3 ⟨rfl, v3, hi3⟩
          have hi4 : TInv w w.heap.size _ w2.heap.size _ { endL M with ret := false } _ w3 := hi3
          obtain ⟨d0, d1, d2, d3, hfd⟩ := hi3.inv.cod.all
          have hroom3 := hi3.inv.room
          have HR := hide (hR.next hlt HS.out hi4)
          clear hi3 hi4 HS HC hR c0 c1 c2 c3 hfz g0 gfz glt
          go_wp2
          exact ⟨⟨k + 1, _, _, _, by go_num, HR.out⟩, by simp [intOf]; omega⟩
        by_cases h8 : s[k] = 8
        · have HS := hide (show step M s[k] = ({ M with ret := false, now := M.now.extract 0 (M.now.size - 1) }, 0) by unfold step; rw [if_neg (by simp [hr])]; rw [if_neg (by simp [h13, h10])]; rw [if_pos (.inl h8)])
          have e13 : (((s[k].toNat : Nat) : Int) == (13 : Int)) = false := q13.trans (by simp [h13])
          have e10 : (((s[k].toNat : Nat) : Int) == (10 : Int)) = false := q10.trans (by simp [h10])
          have e8 : (((s[k].toNat : Nat) : Int) == (8 : Int)) = true := q8.trans (by simp [h8])
          rw [hr] at c2
          have hn60 := ((gtext_iff M.now).1 hR.fine.now).1
          have HI := hide (show TInv w w.heap.size _ w2.heap.size n { M with ret := false, now := M.now.extract 0 (M.now.size - 1) } _ _ from hi1.put 0 (.string (M.now.extract 0 (M.now.size - 1))) rfl rfl)
          have HR := hide (hR.next hlt HS.out HI.out)
          clear q10 q0 q13 q8 q127 hi1 HI HS hR h13 h10 h8 hr
          go_wp2
          rw [show ((if ((M.now.size : Nat) : Int) - 1 < 0 then 0 else ((M.now.size : Nat) : Int) - 1) : Int).toNat = M.now.size - 1 by split <;> omega]
          exact ⟨⟨k + 1, _, _, _, by go_num, HR.out⟩, by simp [intOf]; omega⟩
        by_cases h127 : s[k] = 127
        · have HS := hide (show step M s[k] = ({ M with ret := false, now := M.now.extract 0 (M.now.size - 1) }, 0) by unfold step; rw [if_neg (by simp [hr])]; rw [if_neg (by simp [h13, h10])]; rw [if_pos (.inr h127)])
          have e13 : (((s[k].toNat : Nat) : Int) == (13 : Int)) = false := q13.trans (by simp [h13])
          have e10 : (((s[k].toNat : Nat) : Int) == (10 : Int)) = false := q10.trans (by simp [h10])
          have e8 : (((s[k].toNat : Nat) : Int) == (8 : Int)) = false := q8.trans (by simp [h8])
          have e127 : (((s[k].toNat : Nat) : Int) == (127 : Int)) = true := q127.trans (by simp [h127])
          rw [hr] at c2
          have hn60 := ((gtext_iff M.now).1 hR.fine.now).1
          have HI := hide (show TInv w w.heap.size _ w2.heap.size n { M with ret := false, now := M.now.extract 0 (M.now.size - 1) } _ _ from hi1.put 0 (.string (M.now.extract 0 (M.now.size - 1))) rfl rfl)
          have HR := hide (hR.next hlt HS.out HI.out)
          clear q10 q0 q13 q8 q127 hi1 HI HS hR h13 h10 h8 h127 hr
          go_wp2
          rw [show ((if ((M.now.size : Nat) : Int) - 1 < 0 then 0 else ((M.now.size : Nat) : Int) - 1) : Int).toNat = M.now.size - 1 by split <;> omega]
          exact ⟨⟨k + 1, _, _, _, by go_num, HR.out⟩, by simp [intOf]; omega⟩
        by_cases h32 : s[k].toNat < 32
        · have HS := hide (show step M s[k] = ({ M with ret := false }, 0) by unfold step; rw [if_neg (by simp [hr])]; rw [if_neg (by simp [h13, h10])]; rw [if_neg (by simp [h8, h127])]; rw [if_pos (by simp [vis]; omega)])
          have e13 : (((s[k].toNat : Nat) : Int) == (13 : Int)) = false := q13.trans (by simp [h13])
          have e10 : (((s[k].toNat : Nat) : Int) == (10 : Int)) = false := q10.trans (by simp [h10])
          have e8 : (((s[k].toNat : Nat) : Int) == (8 : Int)) = false := q8.trans (by simp [h8])
          have e127 : (((s[k].toNat : Nat) : Int) == (127 : Int)) = false := q127.trans (by simp [h127])
          rw [hr] at c2
          have hn60 := ((gtext_iff M.now).1 hR.fine.now).1
          have HI := hide (show TInv w w.heap.size _ w2.heap.size n { M with ret := false } _ _ from hi1)
          have HR := hide (hR.next hlt HS.out HI.out)
          clear q10 q0 q13 q8 q127 hi1 HI HS hR h13 h10 h8 h127 hr
          go_wp2
          exact ⟨⟨k + 1, _, _, _, by go_num, HR.out⟩, by simp [intOf]; omega⟩
        by_cases h126 : 126 < s[k].toNat
        · have HS := hide (show step M s[k] = ({ M with ret := false }, 0) by unfold step; rw [if_neg (by simp [hr])]; rw [if_neg (by simp [h13, h10])]; rw [if_neg (by simp [h8, h127])]; rw [if_pos (by simp [vis]; omega)])
          have e13 : (((s[k].toNat : Nat) : Int) == (13 : Int)) = false := q13.trans (by simp [h13])
          have e10 : (((s[k].toNat : Nat) : Int) == (10 : Int)) = false := q10.trans (by simp [h10])
          have e8 : (((s[k].toNat : Nat) : Int) == (8 : Int)) = false := q8.trans (by simp [h8])
          have e127 : (((s[k].toNat : Nat) : Int) == (127 : Int)) = false := q127.trans (by simp [h127])
          rw [hr] at c2
          have hn60 := ((gtext_iff M.now).1 hR.fine.now).1
          have HI := hide (show TInv w w.heap.size _ w2.heap.size n { M with ret := false } _ _ from hi1)
          have HR := hide (hR.next hlt HS.out HI.out)
          clear q10 q0 q13 q8 q127 hi1 HI HS hR h13 h10 h8 h127 hr
          go_wp2
          exact ⟨⟨k + 1, _, _, _, by go_num, HR.out⟩, by simp [intOf]; omega⟩
        have hv : vis s[k] = true := by simp [vis]; omega
        by_cases h60 : M.now.size = 60
        · have HS := hide (show step M s[k] = ({ M with ret := false, long := true }, 0) by unfold step; rw [if_neg (by simp [hr])]; rw [if_neg (by simp [h13, h10])]; rw [if_neg (by simp [h8, h127])]; rw [if_neg (by simp [hv]), if_pos h60])
          have e13 : (((s[k].toNat : Nat) : Int) == (13 : Int)) = false := q13.trans (by simp [h13])
          have e10 : (((s[k].toNat : Nat) : Int) == (10 : Int)) = false := q10.trans (by simp [h10])
          have e8 : (((s[k].toNat : Nat) : Int) == (8 : Int)) = false := q8.trans (by simp [h8])
          have e127 : (((s[k].toNat : Nat) : Int) == (127 : Int)) = false := q127.trans (by simp [h127])
          rw [hr] at c2
          have hn60 := ((gtext_iff M.now).1 hR.fine.now).1
          clear hv
          have HI := hide (show TInv w w.heap.size _ w2.heap.size n { M with ret := false, long := true } _ _ from hi1.put 1 (.bool true) rfl rfl)
          have HR := hide (hR.next hlt HS.out HI.out)
          clear q10 q0 q13 q8 q127 hi1 HI HS hR h13 h10 h8 h127 hr
          go_wp2
          exact ⟨⟨k + 1, _, _, _, by go_num, HR.out⟩, by simp [intOf]; omega⟩
        · have HS := hide (show step M s[k] = ({ M with ret := false, now := M.now ++ ⟨#[s[k]]⟩ }, 0) by unfold step; rw [if_neg (by simp [hr])]; rw [if_neg (by simp [h13, h10])]; rw [if_neg (by simp [h8, h127])]; rw [if_neg (by simp [hv]), if_neg h60])
          have e13 : (((s[k].toNat : Nat) : Int) == (13 : Int)) = false := q13.trans (by simp [h13])
          have e10 : (((s[k].toNat : Nat) : Int) == (10 : Int)) = false := q10.trans (by simp [h10])
          have e8 : (((s[k].toNat : Nat) : Int) == (8 : Int)) = false := q8.trans (by simp [h8])
          have e127 : (((s[k].toNat : Nat) : Int) == (127 : Int)) = false := q127.trans (by simp [h127])
          rw [hr] at c2
          have hn60 := ((gtext_iff M.now).1 hR.fine.now).1
          clear hv
          have HI := hide hi1
          have hR2 := hide hR
          have hcc : ¬ 9223372036854775807 < M.now.size + 1 := by omega
          have hwr : IntKind.i64.wrap ((s[k].toNat : Nat) : Int) = s[k].toNat := by rw [IntKind.wrap_i64]; omega
          clear q10 q0 q13 q8 q127 hi1 hR h13 h10 h8 h127 hr
          go_wp2_with fail
          go_region_with (go_at_call 25; refine (bytesOf1 _ s[k] _ ?_ ?_).mono ?_; (go_simp); (go_simp); rintro e w3 ⟨rfl, hb3⟩; have ht3 := ((HI.out.drew).alloc _).behind hb3 (Nat.le_refl _); obtain ⟨s0, s1, s2, s3, sfz⟩ := ht3.inv.cod.all; have hz3 := ht3.inv.cod.lt)
          all_goals go_wp2
          all_goals exact ⟨⟨k + 1, _, _, _, by go_num, hR2.out.next hlt HS.out (ht3.put (L' := { M with ret := false, now := M.now ++ ⟨#[s[k]]⟩ }) 0 (.string (M.now ++ ⟨#[s[k]]⟩)) rfl rfl)⟩, by simp [intOf]; omega⟩
      · have hi1 := hR.inv.put (L' := { M with ret := false }) 2 (.bool false) rfl rfl
        by_cases h10 : s[k] = 10
        · have HS := hide (show step M s[k] = ({ M with ret := false }, 0) by unfold step; rw [if_pos ⟨hr, .inl h10⟩])
          have e10 : (((s[k].toNat : Nat) : Int) == (10 : Int)) = true := q10.trans (by simp [h10])
          rw [hr] at c2
          have HI := hide (show TInv w w.heap.size _ w2.heap.size n { M with ret := false } _ _ from hi1)
          have HR := hide (hR.next hlt HS.out HI.out)
          clear q10 q0 q13 q8 q127 hi1 HI HS hR h10 hr
          go_wp2
          exact ⟨⟨k + 1, _, _, _, by go_num, HR.out⟩, by simp [intOf]; omega⟩
        by_cases h0 : s[k] = 0
        · have HS := hide (show step M s[k] = ({ M with ret := false }, 0) by unfold step; rw [if_pos ⟨hr, .inr h0⟩])
          have e10 : (((s[k].toNat : Nat) : Int) == (10 : Int)) = false := q10.trans (by simp [h10])
          have e0 : (((s[k].toNat : Nat) : Int) == (0 : Int)) = true := q0.trans (by simp [h0])
          rw [hr] at c2
          have HI := hide (show TInv w w.heap.size _ w2.heap.size n { M with ret := false } _ _ from hi1)
          have HR := hide (hR.next hlt HS.out HI.out)
          clear q10 q0 q13 q8 q127 hi1 HI HS hR h10 h0 hr
          go_wp2
          exact ⟨⟨k + 1, _, _, _, by go_num, HR.out⟩, by simp [intOf]; omega⟩
        by_cases h13 : s[k] = 13
        · rw [hr] at c2
          have e10 : (((s[k].toNat : Nat) : Int) == (10 : Int)) = false := q10.trans (by simp [h10])
          have e0 : (((s[k].toNat : Nat) : Int) == (0 : Int)) = false := q0.trans (by simp [h0])
          have e13 : (((s[k].toNat : Nat) : Int) == (13 : Int)) = true := q13.trans (by simp [h13])
          have HC := hide (end24 w w.heap.size _ w2.heap.size n { M with ret := false } _ _ hi1 hb6 (by omega))
          have HS := hide (show step M s[k] = ({ endL M with ret := true }, if 6 ≤ M.q.length then 1 else 0) by unfold step; rw [if_neg (by simp [hr, h10, h0])]; rw [if_pos (.inl h13)]; simp [h13])
          clear q10 q0 q13 q8 q127 hi1 h10 h0 h13 hr
          go_wp2_with fail
          refine HC.out.mono ?_
          rintro e w3 ⟨rfl, v3, hi3⟩
          have hi4 := hi3.put (L' := { endL M with ret := true }) 2 (.bool true) rfl rfl
          obtain ⟨d0, d1, d2, d3, hfd⟩ := hi3.inv.cod.all
          have hroom3 := hi3.inv.room
          have HR := hide (hR.next hlt HS.out hi4)
          clear hi3 hi4 HS HC hR c0 c1 c2 c3 hfz g0 gfz glt
          go_wp2
          exact ⟨⟨k + 1, _, _, _, by go_num, HR.out⟩, by simp [intOf]; omega⟩
        by_cases h8 : s[k] = 8
        · have HS := hide (show step M s[k] = ({ M with ret := false, now := M.now.extract 0 (M.now.size - 1) }, 0) by unfold step; rw [if_neg (by simp [hr, h10, h0])]; rw [if_neg (by simp [h13, h10])]; rw [if_pos (.inl h8)])
          have e10 : (((s[k].toNat : Nat) : Int) == (10 : Int)) = false := q10.trans (by simp [h10])
          have e0 : (((s[k].toNat : Nat) : Int) == (0 : Int)) = false := q0.trans (by simp [h0])
          have e13 : (((s[k].toNat : Nat) : Int) == (13 : Int)) = false := q13.trans (by simp [h13])
          have e8 : (((s[k].toNat : Nat) : Int) == (8 : Int)) = true := q8.trans (by simp [h8])
          rw [hr] at c2
          have hn60 := ((gtext_iff M.now).1 hR.fine.now).1
          have HI := hide (show TInv w w.heap.size _ w2.heap.size n { M with ret := false, now := M.now.extract 0 (M.now.size - 1) } _ _ from hi1.put 0 (.string (M.now.extract 0 (M.now.size - 1))) rfl rfl)
          have HR := hide (hR.next hlt HS.out HI.out)
          clear q10 q0 q13 q8 q127 hi1 HI HS hR h10 h0 h13 h8 hr
          go_wp2
          rw [show ((if ((M.now.size : Nat) : Int) - 1 < 0 then 0 else ((M.now.size : Nat) : Int) - 1) : Int).toNat = M.now.size - 1 by split <;> omega]
          exact ⟨⟨k + 1, _, _, _, by go_num, HR.out⟩, by simp [intOf]; omega⟩
        by_cases h127 : s[k] = 127
        · have HS := hide (show step M s[k] = ({ M with ret := false, now := M.now.extract 0 (M.now.size - 1) }, 0) by unfold step; rw [if_neg (by simp [hr, h10, h0])]; rw [if_neg (by simp [h13, h10])]; rw [if_pos (.inr h127)])
          have e10 : (((s[k].toNat : Nat) : Int) == (10 : Int)) = false := q10.trans (by simp [h10])
          have e0 : (((s[k].toNat : Nat) : Int) == (0 : Int)) = false := q0.trans (by simp [h0])
          have e13 : (((s[k].toNat : Nat) : Int) == (13 : Int)) = false := q13.trans (by simp [h13])
          have e8 : (((s[k].toNat : Nat) : Int) == (8 : Int)) = false := q8.trans (by simp [h8])
          have e127 : (((s[k].toNat : Nat) : Int) == (127 : Int)) = true := q127.trans (by simp [h127])
          rw [hr] at c2
          have hn60 := ((gtext_iff M.now).1 hR.fine.now).1
          have HI := hide (show TInv w w.heap.size _ w2.heap.size n { M with ret := false, now := M.now.extract 0 (M.now.size - 1) } _ _ from hi1.put 0 (.string (M.now.extract 0 (M.now.size - 1))) rfl rfl)
          have HR := hide (hR.next hlt HS.out HI.out)
          clear q10 q0 q13 q8 q127 hi1 HI HS hR h10 h0 h13 h8 h127 hr
          go_wp2
          rw [show ((if ((M.now.size : Nat) : Int) - 1 < 0 then 0 else ((M.now.size : Nat) : Int) - 1) : Int).toNat = M.now.size - 1 by split <;> omega]
          exact ⟨⟨k + 1, _, _, _, by go_num, HR.out⟩, by simp [intOf]; omega⟩
        by_cases h32 : s[k].toNat < 32
        · have HS := hide (show step M s[k] = ({ M with ret := false }, 0) by unfold step; rw [if_neg (by simp [hr, h10, h0])]; rw [if_neg (by simp [h13, h10])]; rw [if_neg (by simp [h8, h127])]; rw [if_pos (by simp [vis]; omega)])
          have e10 : (((s[k].toNat : Nat) : Int) == (10 : Int)) = false := q10.trans (by simp [h10])
          have e0 : (((s[k].toNat : Nat) : Int) == (0 : Int)) = false := q0.trans (by simp [h0])
          have e13 : (((s[k].toNat : Nat) : Int) == (13 : Int)) = false := q13.trans (by simp [h13])
          have e8 : (((s[k].toNat : Nat) : Int) == (8 : Int)) = false := q8.trans (by simp [h8])
          have e127 : (((s[k].toNat : Nat) : Int) == (127 : Int)) = false := q127.trans (by simp [h127])
          rw [hr] at c2
          have hn60 := ((gtext_iff M.now).1 hR.fine.now).1
          have HI := hide (show TInv w w.heap.size _ w2.heap.size n { M with ret := false } _ _ from hi1)
          have HR := hide (hR.next hlt HS.out HI.out)
          clear q10 q0 q13 q8 q127 hi1 HI HS hR h10 h0 h13 h8 h127 hr
          go_wp2
          exact ⟨⟨k + 1, _, _, _, by go_num, HR.out⟩, by simp [intOf]; omega⟩
        by_cases h126 : 126 < s[k].toNat
        · have HS := hide (show step M s[k] = ({ M with ret := false }, 0) by unfold step; rw [if_neg (by simp [hr, h10, h0])]; rw [if_neg (by simp [h13, h10])]; rw [if_neg (by simp [h8, h127])]; rw [if_pos (by simp [vis]; omega)])
          have e10 : (((s[k].toNat : Nat) : Int) == (10 : Int)) = false := q10.trans (by simp [h10])
          have e0 : (((s[k].toNat : Nat) : Int) == (0 : Int)) = false := q0.trans (by simp [h0])
          have e13 : (((s[k].toNat : Nat) : Int) == (13 : Int)) = false := q13.trans (by simp [h13])
          have e8 : (((s[k].toNat : Nat) : Int) == (8 : Int)) = false := q8.trans (by simp [h8])
          have e127 : (((s[k].toNat : Nat) : Int) == (127 : Int)) = false := q127.trans (by simp [h127])
          rw [hr] at c2
          have hn60 := ((gtext_iff M.now).1 hR.fine.now).1
          have HI := hide (show TInv w w.heap.size _ w2.heap.size n { M with ret := false } _ _ from hi1)
          have HR := hide (hR.next hlt HS.out HI.out)
          clear q10 q0 q13 q8 q127 hi1 HI HS hR h10 h0 h13 h8 h127 hr
          go_wp2
          exact ⟨⟨k + 1, _, _, _, by go_num, HR.out⟩, by simp [intOf]; omega⟩
        have hv : vis s[k] = true := by simp [vis]; omega
        by_cases h60 : M.now.size = 60
        · have HS := hide (show step M s[k] = ({ M with ret := false, long := true }, 0) by unfold step; rw [if_neg (by simp [hr, h10, h0])]; rw [if_neg (by simp [h13, h10])]; rw [if_neg (by simp [h8, h127])]; rw [if_neg (by simp [hv]), if_pos h60])
          have e10 : (((s[k].toNat : Nat) : Int) == (10 : Int)) = false := q10.trans (by simp [h10])
          have e0 : (((s[k].toNat : Nat) : Int) == (0 : Int)) = false := q0.trans (by simp [h0])
          have e13 : (((s[k].toNat : Nat) : Int) == (13 : Int)) = false := q13.trans (by simp [h13])
          have e8 : (((s[k].toNat : Nat) : Int) == (8 : Int)) = false := q8.trans (by simp [h8])
          have e127 : (((s[k].toNat : Nat) : Int) == (127 : Int)) = false := q127.trans (by simp [h127])
          rw [hr] at c2
          have hn60 := ((gtext_iff M.now).1 hR.fine.now).1
          clear hv
          have HI := hide (show TInv w w.heap.size _ w2.heap.size n { M with ret := false, long := true } _ _ from hi1.put 1 (.bool true) rfl rfl)
          have HR := hide (hR.next hlt HS.out HI.out)
          clear q10 q0 q13 q8 q127 hi1 HI HS hR h10 h0 h13 h8 h127 hr
          go_wp2
          exact ⟨⟨k + 1, _, _, _, by go_num, HR.out⟩, by simp [intOf]; omega⟩
        · have HS := hide (show step M s[k] = ({ M with ret := false, now := M.now ++ ⟨#[s[k]]⟩ }, 0) by unfold step; rw [if_neg (by simp [hr, h10, h0])]; rw [if_neg (by simp [h13, h10])]; rw [if_neg (by simp [h8, h127])]; rw [if_neg (by simp [hv]), if_neg h60])
          have e10 : (((s[k].toNat : Nat) : Int) == (10 : Int)) = false := q10.trans (by simp [h10])
          have e0 : (((s[k].toNat : Nat) : Int) == (0 : Int)) = false := q0.trans (by simp [h0])
          have e13 : (((s[k].toNat : Nat) : Int) == (13 : Int)) = false := q13.trans (by simp [h13])
          have e8 : (((s[k].toNat : Nat) : Int) == (8 : Int)) = false := q8.trans (by simp [h8])
          have e127 : (((s[k].toNat : Nat) : Int) == (127 : Int)) = false := q127.trans (by simp [h127])
          rw [hr] at c2
          have hn60 := ((gtext_iff M.now).1 hR.fine.now).1
          clear hv
          have HI := hide hi1
          have hR2 := hide hR
          have hcc : ¬ 9223372036854775807 < M.now.size + 1 := by omega
          have hwr : IntKind.i64.wrap ((s[k].toNat : Nat) : Int) = s[k].toNat := by rw [IntKind.wrap_i64]; omega
          clear q10 q0 q13 q8 q127 hi1 hR h10 h0 h13 h8 h127 hr
          go_wp2_with fail
          go_region_with (go_at_call 25; refine (bytesOf1 _ s[k] _ ?_ ?_).mono ?_; (go_simp); (go_simp); rintro e w3 ⟨rfl, hb3⟩; have ht3 := ((HI.out.drew).alloc _).behind hb3 (Nat.le_refl _); obtain ⟨s0, s1, s2, s3, sfz⟩ := ht3.inv.cod.all; have hz3 := ht3.inv.cod.lt)
          all_goals go_wp2
          all_goals exact ⟨⟨k + 1, _, _, _, by go_num, hR2.out.next hlt HS.out (ht3.put (L' := { M with ret := false, now := M.now ++ ⟨#[s[k]]⟩ }) 0 (.string (M.now ++ ⟨#[s[k]]⟩)) rfl rfl)⟩, by simp [intOf]; omega⟩
    · have hkk : k = s.size := by omega
      have hT : feedL L s.data.toList = (M, n) := by have := hR.eq; rwa [hkk, List.take_of_length_le (by simp)] at this
      have HT := hide hT
      obtain ⟨d0, d1, d2, d3, hfd⟩ := Cod.all (L := zl) (v := .slice none 0 0) hR.inv.inv.other
      have HI := hide hR.inv
      clear hT hkk
      go_wp2
      go_region
      all_goals go_wp2
      all_goals (obtain ⟨f1, f2, f3⟩ := HI.out.drew.inv.done)
      all_goals refine bodyPost_ret (res3 Try.results9 rfl rfl rfl f1) rfl ?_
      all_goals rw [HT.out]
      all_goals exact ⟨_, rfl, f2, f3⟩
end Go.Proofs.Ytpbadpebnhlmlab
