/-
  The contract of Feed of package line.
-/
import Derived.Test.YtpbadpebnhlmlabFeed0
import Derived.Laws.BytesString
import Derived.Lib.AppendStr
namespace Go.Proofs.Ytpbadpebnhlmlab
open Go.RowKit
set_option linter.unusedVariables false

/-- Bytes as cells. -/
def bcells (l : List UInt8) : List Value := l.map fun b => Value.int .u8 b.toNat

theorem foldl_push (l : List UInt8) : ∀ (r : ByteArray), (l.map fun b => (b.toNat : Int)).foldl (fun r n => r.push (UInt8.ofNat n.toNat)) r = ⟨(r.data.toList ++ l).toArray⟩ := by
  induction l with
  | nil => intro r; cases r; simp
  | cons a l ih =>
    intro r
    simp only [List.map_cons, List.foldl_cons]
    rw [ih]
    cases r
    simp [ByteArray.push]

theorem conv_bytes (w : World) (a : Addr) (n c : Nat) (l : List UInt8) (hn : n = l.length) (h : ∀ j v, (bcells l)[j]? = some v → w.cell? (a.add j) = some v) :
    (convert 46 9 (.slice (some a) n c)).run Try.prog w = .ok (.string ⟨l.toArray⟩) w := by
  subst hn
  rw [run_convert_bytes_string w 46 9 5 (some a) _ c Try.underlying46 Try.underlying5 Try.underlying9]
  have hc := run_loadCells_list (P := Try.prog) (w := w) a (bcells l) h
  have e : bcells l = (l.map fun b => (b.toNat : Int)).map (Value.int .u8) := by simp [bcells]
  rw [run_bytesToString w a l.length c (l.map fun b => (b.toNat : Int)) (by rw [← e]; simpa [bcells] using hc), foldl_push]
  simp

theorem conv_one (w : World) (n : Nat) (hn : n = w.heap.size) (c : UInt8) : (convert 46 9 (.slice (some ⟨n, 0, none⟩) 1 1)).run Try.prog (w.alloc (.cells #[.int .u8 ((c.toNat : Nat) : Int)] 5)) = .ok (.string ⟨#[c]⟩) (w.alloc (.cells #[.int .u8 ((c.toNat : Nat) : Int)] 5)) := by
  refine conv_bytes _ _ 1 1 [c] rfl ?_
  intro j v hj
  cases j with
  | zero => simp [bcells] at hj; subst hj; exact cell_new hn _ _
  | succ j => simp [bcells] at hj

theorem own_shape {w : World} {base : Nat} {v : Value} {n : Nat} {xs : List Value} (h : w.ownsRow base 9 1 v n xs) : ∃ (av : Option Addr) (cap : Nat), v = .slice av n cap := by
  rcases h.2 with ⟨rfl, rfl⟩ | ⟨g, cap, cur, rfl, _⟩
  · exact ⟨_, _, rfl⟩
  · exact ⟨_, _, rfl⟩

theorem gtext_small {s : ByteArray} (h : gtext s = true) : s.size ≤ maxLen := by
  have := ((gtext_iff s).1 h).1; unfold maxLen; omega

theorem small_of {L : Lin} (h : Fine L) : Small L := ⟨gtext_small h.now, fun s hs => gtext_small (h.all s hs)⟩

set_option maxRecDepth 100000 in
set_option maxHeartbeats 1000000 in
theorem feed_bad (L : Lin) (v : Value) (s : ByteArray) (w : World) (hv : Reads w v L.q) (hs : Small L) (hq : L.q.length ≤ 8796093022208) (hg : good L = false) :
    Calls Try.prog 8 #[.agg (L.cells v), .string s] w fun e w' => ∃ v', e = .returned (.tuple #[.agg (L.cells v'), .int .i64 0, .int .i64 2]) ∧ Reads w' v' L.q ∧ Below w.heap.size w w' := by
  have hv1 := hide hv
  have hg' := hide hg
  have C1 := hide (fun w' h => good_any L v w' h hs)
  obtain ⟨av, cap, rfl, _⟩ := hv
  clear hg hs
  unfold Lin.cells at C1 ⊢
  go_enter Try.func8, Try.ntmps8
  go_wp2_with fail
  refine (C1.out _ ((hv1.out.alloc _).alloc _)).mono ?_
  rintro e w1 ⟨rfl, hb1⟩
  rw [hg'.out]
  have hr1 : Reads w1 (.slice av L.q.length cap) L.q := ((hv1.out.alloc _).alloc _).below hb1 (Nat.le_refl _)
  have k1 : Cod w1 w.heap.size L (.slice av L.q.length cap) := by
    show w1.heap[w.heap.size]? = _
    rw [hb1.block _ (by simp; omega), Below.heap_alloc _ _ _ (by simp)]
    exact heap_alloc_new w _
  obtain ⟨c0, c1, c2, c3, hfz⟩ := k1.all
  have hz1 := k1.lt
  go_wp2_with fail
  refine (clone_any L.q _ w1 hr1 hq).mono ?_
  rintro e w2 ⟨v2, rfl, ho, hb2⟩
  obtain ⟨l2, k2, o2, hi⟩ := finv_start (L := L) (v := .slice av L.q.length cap) hb1 hb2 ho
  obtain ⟨av2, cap2, rfl⟩ := own_shape ho
  clear c0 c1 c2 c3 hfz k1 hr1 hb1 ho
  obtain ⟨c0, c1, c2, c3, hfz⟩ := k2.all
  obtain ⟨d0, d1, d2, d3, hfd⟩ := Cod.all (L := zl) (v := .slice none 0 0) o2
  have hz2 : w.heap.size + 1 < w2.heap.size := (Array.getElem?_eq_some_iff.1 o2).1
  replace hi := hide hi
  clear o2 k2 hb2
  go_wp2
  obtain ⟨f1, f2, f3⟩ := hi.out.done
  exact bodyPost_ret (res3 Try.results8 rfl rfl rfl f1) rfl ⟨_, rfl, f2, f3⟩

set_option maxRecDepth 100000 in
set_option maxHeartbeats 4000000 in
theorem feed_good (L : Lin) (v : Value) (s : ByteArray) (w : World) (hv : Reads w v L.q) (hf : Fine L) (hsz : s.size ≤ maxLen) :
    Calls Try.prog 8 #[.agg (L.cells v), .string s] w fun e w' => ∃ v', e = .returned (.tuple #[.agg ((feedL L s.data.toList).1.cells v'), .int .i64 (feedL L s.data.toList).2, .int .i64 0]) ∧ Reads w' v' (feedL L s.data.toList).1.q ∧ Below w.heap.size w w' := by
  have hs := small_of hf
  have hq : L.q.length ≤ 8796093022208 := by have := hf.len; omega
  have hv1 := hide hv
  have HF := hide hf
  have hg' := hide ((fine_iff L).2 hf)
  have C1 := hide (fun w' h => good_any L v w' h hs)
  obtain ⟨av, cap, rfl, _⟩ := hv
  unfold maxLen at hsz
  clear hs hf
  unfold Lin.cells at C1 ⊢
  go_enter Try.func8, Try.ntmps8
  go_wp2_with fail
  refine (C1.out _ ((hv1.out.alloc _).alloc _)).mono ?_
  rintro e w1 ⟨rfl, hb1⟩
  rw [hg'.out]
  have hr1 : Reads w1 (.slice av L.q.length cap) L.q := ((hv1.out.alloc _).alloc _).below hb1 (Nat.le_refl _)
  have k1 : Cod w1 w.heap.size L (.slice av L.q.length cap) := by
    show w1.heap[w.heap.size]? = _
    rw [hb1.block _ (by simp; omega), Below.heap_alloc _ _ _ (by simp)]
    exact heap_alloc_new w _
  obtain ⟨c0, c1, c2, c3, hfz⟩ := k1.all
  have hz1 := k1.lt
  go_wp2_with fail
  refine (clone_any L.q _ w1 hr1 hq).mono ?_
  rintro e w2 ⟨v2, rfl, ho, hb2⟩
  obtain ⟨l2, k2, o2, hi⟩ := finv_start (L := L) (v := .slice av L.q.length cap) hb1 hb2 ho
  obtain ⟨av2, cap2, rfl⟩ := own_shape ho
  clear c0 c1 c2 c3 hfz k1 hr1 hb1 ho
  obtain ⟨c0, c1, c2, c3, hfz⟩ := k2.all
  have hz2 : w.heap.size + 1 < w2.heap.size := (Array.getElem?_eq_some_iff.1 o2).1
  replace hi := hide hi
  clear o2 k2 hb2
  go_wp2
  go_loopw [8, 9] (fun c i wr => ∃ (k n : Nat) (M : Lin) (u : Value), c = .int .i64 n ∧ i = .int .i64 k ∧ Rel w w.heap.size (.cells (zl.cells (.slice none 0 0)) 24) L s k M n u wr) (fun _ i _ => s.size - (intOf i).toNat)
  case atStart => exact ⟨0, 0, L, _, rfl, rfl, Nat.zero_le _, rfl, HF.out, hi.out⟩
  case round =>
    obtain ⟨k, n, M, u, rfl, rfl, hR⟩ := hrel
    have hk := hR.le
    have hn := hR.count
    obtain ⟨av3, cap3, rfl⟩ := own_shape hR.inv.own
    clear c0 c1 c2 c3 hfz hi
    obtain ⟨c0, c1, c2, c3, hfz⟩ := hR.inv.cod.all
    have hroom := hR.inv.room
    by_cases hlt : k < s.size
    · have hb256 : s[k].toNat < 256 := s[k].toNat_lt
      have hb6 := hR.fine.len
      have hbl : w.heap.size < wr.heap.size := by omega
      have hi1 := hR.inv.put (L' := { M with ret := false }) 2 (.bool false) rfl rfl
      have q10 := byte_beq s[k] 10 (by omega)
      have q0 := byte_beq s[k] 0 (by omega)
      have q13 := byte_beq s[k] 13 (by omega)
      have q8 := byte_beq s[k] 8 (by omega)
      have q127 := byte_beq s[k] 127 (by omega)
      simp only [show UInt8.ofNat 10 = 10 from rfl, show UInt8.ofNat 0 = 0 from rfl, show UInt8.ofNat 13 = 13 from rfl, show UInt8.ofNat 8 = 8 from rfl, show UInt8.ofNat 127 = 127 from rfl] at q10 q0 q13 q8 q127
      cases hr : M.ret
      · by_cases h13 : s[k] = 13
        · rw [hr] at c2
          have e13 : (((s[k].toNat : Nat) : Int) == (13 : Int)) = true := q13.trans (by simp [h13])
          have HC := hide (end_any w w.heap.size _ { M with ret := false } _ _ hi1 hb6)
          by_cases hfull : M.q.length < 6
          · have HS := hide (show step M s[k] = ({ endL M with ret := true }, 0) by unfold step; rw [if_neg (by simp [hr])]; rw [if_pos (.inl h13), if_neg (by omega)]; simp [h13])
            have HD := hide (show decide (M.q.length < 6) = true by simp; omega)
            clear q10 q0 q13 q8 q127 hi1 h13 hr hfull
            go_wp2_with fail
            refine HC.out.mono ?_
            rintro e w3 ⟨rfl, v3, hi3⟩
            simp only []
            rw [HD.out]
            have hi4 := hi3.put (L' := { endL M with ret := true }) 2 (.bool true) rfl rfl
            obtain ⟨d0, d1, d2, d3, hfd⟩ := hi3.cod.all
            have hroom3 := hi3.room
            have HR := hide (hR.next hlt HS.out hi4)
            clear hi3 hi4 HS HC hR c0 c1 c2 c3 hfz
            go_wp2
            exact ⟨⟨k + 1, n, _, _, by go_num, by go_num, HR.out⟩, by simp [intOf]; omega⟩
          · have HS := hide (show step M s[k] = ({ endL M with ret := true }, 1) by unfold step; rw [if_neg (by simp [hr])]; rw [if_pos (.inl h13), if_pos (by omega)]; simp [h13])
            have HD := hide (show decide (M.q.length < 6) = false by simp; omega)
            clear q10 q0 q13 q8 q127 hi1 h13 hr hfull
            go_wp2_with fail
            refine HC.out.mono ?_
            rintro e w3 ⟨rfl, v3, hi3⟩
            simp only []
            rw [HD.out]
            have hi4 := hi3.put (L' := { endL M with ret := true }) 2 (.bool true) rfl rfl
            obtain ⟨d0, d1, d2, d3, hfd⟩ := hi3.cod.all
            have hroom3 := hi3.room
            have HR := hide (hR.next hlt HS.out hi4)
            clear hi3 hi4 HS HC hR c0 c1 c2 c3 hfz
            go_wp2
            exact ⟨⟨k + 1, n + 1, _, _, by go_num, by go_num, HR.out⟩, by simp [intOf]; omega⟩
        by_cases h10 : s[k] = 10
        · rw [hr] at c2
          have e13 : (((s[k].toNat : Nat) : Int) == (13 : Int)) = false := q13.trans (by simp [h13])
          have e10 : (((s[k].toNat : Nat) : Int) == (10 : Int)) = true := q10.trans (by simp [h10])
          have HC := hide (end_any w w.heap.size _ { M with ret := false } _ _ hi1 hb6)
          by_cases hfull : M.q.length < 6
          · have HS := hide (show step M s[k] = ({ endL M with ret := false }, 0) by unfold step; rw [if_neg (by simp [hr])]; rw [if_pos (.inr h10), if_neg (by omega)]; simp [h10])
            have HD := hide (show decide (M.q.length < 6) = true by simp; omega)
            clear q10 q0 q13 q8 q127 hi1 h13 h10 hr hfull
            go_wp2_with fail
            refine HC.out.mono ?_
            rintro e w3 ⟨rfl, v3, hi3⟩
            simp only []
            rw [HD.out]
            have hi4 := hi3.put (L' := { endL M with ret := false }) 2 (.bool false) rfl rfl
            obtain ⟨d0, d1, d2, d3, hfd⟩ := hi3.cod.all
            have hroom3 := hi3.room
            have HR := hide (hR.next hlt HS.out hi4)
            clear hi3 hi4 HS HC hR c0 c1 c2 c3 hfz
            go_wp2
            exact ⟨⟨k + 1, n, _, _, by go_num, by go_num, HR.out⟩, by simp [intOf]; omega⟩
          · have HS := hide (show step M s[k] = ({ endL M with ret := false }, 1) by unfold step; rw [if_neg (by simp [hr])]; rw [if_pos (.inr h10), if_pos (by omega)]; simp [h10])
            have HD := hide (show decide (M.q.length < 6) = false by simp; omega)
            clear q10 q0 q13 q8 q127 hi1 h13 h10 hr hfull
            go_wp2_with fail
            refine HC.out.mono ?_
            rintro e w3 ⟨rfl, v3, hi3⟩
            simp only []
            rw [HD.out]
            have hi4 := hi3.put (L' := { endL M with ret := false }) 2 (.bool false) rfl rfl
            obtain ⟨d0, d1, d2, d3, hfd⟩ := hi3.cod.all
            have hroom3 := hi3.room
            have HR := hide (hR.next hlt HS.out hi4)
            clear hi3 hi4 HS HC hR c0 c1 c2 c3 hfz
            go_wp2
            exact ⟨⟨k + 1, n + 1, _, _, by go_num, by go_num, HR.out⟩, by simp [intOf]; omega⟩
        by_cases h8 : s[k] = 8
        · have HS := hide (show step M s[k] = ({ M with ret := false, now := M.now.extract 0 (M.now.size - 1) }, 0) by unfold step; rw [if_neg (by simp [hr])]; rw [if_neg (by simp [h13, h10])]; rw [if_pos (.inl h8)])
          have e13 : (((s[k].toNat : Nat) : Int) == (13 : Int)) = false := q13.trans (by simp [h13])
          have e10 : (((s[k].toNat : Nat) : Int) == (10 : Int)) = false := q10.trans (by simp [h10])
          have e8 : (((s[k].toNat : Nat) : Int) == (8 : Int)) = true := q8.trans (by simp [h8])
          rw [hr] at c2
          have hn60 := ((gtext_iff M.now).1 hR.fine.now).1
          have HI := hide (show FInv w w.heap.size _ { M with ret := false, now := M.now.extract 0 (M.now.size - 1) } _ _ from hi1.put 0 (.string (M.now.extract 0 (M.now.size - 1))) rfl rfl)
          have HR := hide (hR.next hlt HS.out HI.out)
          clear q10 q0 q13 q8 q127 hi1 HI HS hR h13 h10 h8 hr
          go_wp2
          rw [show ((if ((M.now.size : Nat) : Int) - 1 < 0 then 0 else ((M.now.size : Nat) : Int) - 1) : Int).toNat = M.now.size - 1 by split <;> omega]
          exact ⟨⟨k + 1, n, _, _, by go_num, by go_num, HR.out⟩, by simp [intOf]; omega⟩
        by_cases h127 : s[k] = 127
        · have HS := hide (show step M s[k] = ({ M with ret := false, now := M.now.extract 0 (M.now.size - 1) }, 0) by unfold step; rw [if_neg (by simp [hr])]; rw [if_neg (by simp [h13, h10])]; rw [if_pos (.inr h127)])
          have e13 : (((s[k].toNat : Nat) : Int) == (13 : Int)) = false := q13.trans (by simp [h13])
          have e10 : (((s[k].toNat : Nat) : Int) == (10 : Int)) = false := q10.trans (by simp [h10])
          have e8 : (((s[k].toNat : Nat) : Int) == (8 : Int)) = false := q8.trans (by simp [h8])
          have e127 : (((s[k].toNat : Nat) : Int) == (127 : Int)) = true := q127.trans (by simp [h127])
          rw [hr] at c2
          have hn60 := ((gtext_iff M.now).1 hR.fine.now).1
          have HI := hide (show FInv w w.heap.size _ { M with ret := false, now := M.now.extract 0 (M.now.size - 1) } _ _ from hi1.put 0 (.string (M.now.extract 0 (M.now.size - 1))) rfl rfl)
          have HR := hide (hR.next hlt HS.out HI.out)
          clear q10 q0 q13 q8 q127 hi1 HI HS hR h13 h10 h8 h127 hr
          go_wp2
          rw [show ((if ((M.now.size : Nat) : Int) - 1 < 0 then 0 else ((M.now.size : Nat) : Int) - 1) : Int).toNat = M.now.size - 1 by split <;> omega]
          exact ⟨⟨k + 1, n, _, _, by go_num, by go_num, HR.out⟩, by simp [intOf]; omega⟩
        cases hv : vis s[k]
        · have HS := hide (show step M s[k] = ({ M with ret := false }, 0) by unfold step; rw [if_neg (by simp [hr])]; rw [if_neg (by simp [h13, h10])]; rw [if_neg (by simp [h8, h127])]; rw [if_pos hv])
          have e13 : (((s[k].toNat : Nat) : Int) == (13 : Int)) = false := q13.trans (by simp [h13])
          have e10 : (((s[k].toNat : Nat) : Int) == (10 : Int)) = false := q10.trans (by simp [h10])
          have e8 : (((s[k].toNat : Nat) : Int) == (8 : Int)) = false := q8.trans (by simp [h8])
          have e127 : (((s[k].toNat : Nat) : Int) == (127 : Int)) = false := q127.trans (by simp [h127])
          rw [hr] at c2
          have HV := hide hv
          have hn60 := ((gtext_iff M.now).1 hR.fine.now).1
          clear hv
          have HI := hide (show FInv w w.heap.size _ { M with ret := false } _ _ from hi1)
          have HR := hide (hR.next hlt HS.out HI.out)
          clear q10 q0 q13 q8 q127 hi1 HI HS hR h13 h10 h8 h127 hr
          go_wp2_with (go_at_call 23; refine (shown_any s[k] _).mono ?_; rintro e w1 ⟨rfl, rfl⟩; rw [HV.out])
          exact ⟨⟨k + 1, n, _, _, by go_num, by go_num, HR.out⟩, by simp [intOf]; omega⟩
        by_cases h60 : M.now.size = 60
        · have HS := hide (show step M s[k] = ({ M with ret := false, long := true }, 0) by unfold step; rw [if_neg (by simp [hr])]; rw [if_neg (by simp [h13, h10])]; rw [if_neg (by simp [h8, h127])]; rw [if_neg (by simp [hv]), if_pos h60])
          have e13 : (((s[k].toNat : Nat) : Int) == (13 : Int)) = false := q13.trans (by simp [h13])
          have e10 : (((s[k].toNat : Nat) : Int) == (10 : Int)) = false := q10.trans (by simp [h10])
          have e8 : (((s[k].toNat : Nat) : Int) == (8 : Int)) = false := q8.trans (by simp [h8])
          have e127 : (((s[k].toNat : Nat) : Int) == (127 : Int)) = false := q127.trans (by simp [h127])
          rw [hr] at c2
          have HV := hide hv
          have hn60 := ((gtext_iff M.now).1 hR.fine.now).1
          clear hv
          have HI := hide (show FInv w w.heap.size _ { M with ret := false, long := true } _ _ from hi1.put 1 (.bool true) rfl rfl)
          have HR := hide (hR.next hlt HS.out HI.out)
          clear q10 q0 q13 q8 q127 hi1 HI HS hR h13 h10 h8 h127 hr
          go_wp2_with (go_at_call 23; refine (shown_any s[k] _).mono ?_; rintro e w1 ⟨rfl, rfl⟩; rw [HV.out])
          exact ⟨⟨k + 1, n, _, _, by go_num, by go_num, HR.out⟩, by simp [intOf]; omega⟩
        · have HS := hide (show step M s[k] = ({ M with ret := false, now := M.now ++ ⟨#[s[k]]⟩ }, 0) by unfold step; rw [if_neg (by simp [hr])]; rw [if_neg (by simp [h13, h10])]; rw [if_neg (by simp [h8, h127])]; rw [if_neg (by simp [hv]), if_neg h60])
          have e13 : (((s[k].toNat : Nat) : Int) == (13 : Int)) = false := q13.trans (by simp [h13])
          have e10 : (((s[k].toNat : Nat) : Int) == (10 : Int)) = false := q10.trans (by simp [h10])
          have e8 : (((s[k].toNat : Nat) : Int) == (8 : Int)) = false := q8.trans (by simp [h8])
          have e127 : (((s[k].toNat : Nat) : Int) == (127 : Int)) = false := q127.trans (by simp [h127])
          rw [hr] at c2
          have HV := hide hv
          have hn60 := ((gtext_iff M.now).1 hR.fine.now).1
          clear hv
          have hcv := conv_one (wr.setCell ⟨w.heap.size, 2, none⟩ (.bool false)) wr.heap.size (by simp) s[k]
          have hcc : ¬ 9223372036854775807 < M.now.size + 1 := by omega
          have HI := hide (show FInv w w.heap.size _ { M with ret := false, now := M.now ++ ⟨#[s[k]]⟩ } _ _ from (hi1.put (L' := { M with ret := false, now := M.now ++ ⟨#[s[k]]⟩ }) 0 (.string (M.now ++ ⟨#[s[k]]⟩)) rfl rfl).alloc (.cells #[.int .u8 ((s[k].toNat : Nat) : Int)] 5))
          have HR := hide (hR.next hlt HS.out HI.out)
          clear q10 q0 q13 q8 q127 hi1 HI HS hR h13 h10 h8 h127 hr
          go_wp2_with (go_at_call 23; refine (shown_any s[k] _).mono ?_; rintro e w1 ⟨rfl, rfl⟩; rw [HV.out])
          exact ⟨⟨k + 1, n, _, _, by go_num, by go_num, HR.out⟩, by simp [intOf]; omega⟩
      · by_cases h10 : s[k] = 10
        · have HS := hide (show step M s[k] = ({ M with ret := false }, 0) by unfold step; rw [if_pos ⟨hr, .inl h10⟩])
          have e10 : (((s[k].toNat : Nat) : Int) == (10 : Int)) = true := q10.trans (by simp [h10])
          rw [hr] at c2
          have HI := hide (show FInv w w.heap.size _ { M with ret := false } _ _ from hi1)
          have HR := hide (hR.next hlt HS.out HI.out)
          clear q10 q0 q13 q8 q127 hi1 HI HS hR h10 hr
          go_wp2
          exact ⟨⟨k + 1, n, _, _, by go_num, by go_num, HR.out⟩, by simp [intOf]; omega⟩
        by_cases h0 : s[k] = 0
        · have HS := hide (show step M s[k] = ({ M with ret := false }, 0) by unfold step; rw [if_pos ⟨hr, .inr h0⟩])
          have e10 : (((s[k].toNat : Nat) : Int) == (10 : Int)) = false := q10.trans (by simp [h10])
          have e0 : (((s[k].toNat : Nat) : Int) == (0 : Int)) = true := q0.trans (by simp [h0])
          rw [hr] at c2
          have HI := hide (show FInv w w.heap.size _ { M with ret := false } _ _ from hi1)
          have HR := hide (hR.next hlt HS.out HI.out)
          clear q10 q0 q13 q8 q127 hi1 HI HS hR h10 h0 hr
          go_wp2
          exact ⟨⟨k + 1, n, _, _, by go_num, by go_num, HR.out⟩, by simp [intOf]; omega⟩
        by_cases h13 : s[k] = 13
        · rw [hr] at c2
          have e10 : (((s[k].toNat : Nat) : Int) == (10 : Int)) = false := q10.trans (by simp [h10])
          have e0 : (((s[k].toNat : Nat) : Int) == (0 : Int)) = false := q0.trans (by simp [h0])
          have e13 : (((s[k].toNat : Nat) : Int) == (13 : Int)) = true := q13.trans (by simp [h13])
          have HC := hide (end_any w w.heap.size _ { M with ret := false } _ _ hi1 hb6)
          by_cases hfull : M.q.length < 6
          · have HS := hide (show step M s[k] = ({ endL M with ret := true }, 0) by unfold step; rw [if_neg (by simp [hr, h10, h0])]; rw [if_pos (.inl h13), if_neg (by omega)]; simp [h13])
            have HD := hide (show decide (M.q.length < 6) = true by simp; omega)
            clear q10 q0 q13 q8 q127 hi1 h10 h0 h13 hr hfull
            go_wp2_with fail
            refine HC.out.mono ?_
            rintro e w3 ⟨rfl, v3, hi3⟩
            simp only []
            rw [HD.out]
            have hi4 := hi3.put (L' := { endL M with ret := true }) 2 (.bool true) rfl rfl
            obtain ⟨d0, d1, d2, d3, hfd⟩ := hi3.cod.all
            have hroom3 := hi3.room
            have HR := hide (hR.next hlt HS.out hi4)
            clear hi3 hi4 HS HC hR c0 c1 c2 c3 hfz
            go_wp2
            exact ⟨⟨k + 1, n, _, _, by go_num, by go_num, HR.out⟩, by simp [intOf]; omega⟩
          · have HS := hide (show step M s[k] = ({ endL M with ret := true }, 1) by unfold step; rw [if_neg (by simp [hr, h10, h0])]; rw [if_pos (.inl h13), if_pos (by omega)]; simp [h13])
            have HD := hide (show decide (M.q.length < 6) = false by simp; omega)
            clear q10 q0 q13 q8 q127 hi1 h10 h0 h13 hr hfull
            go_wp2_with fail
            refine HC.out.mono ?_
            rintro e w3 ⟨rfl, v3, hi3⟩
            simp only []
            rw [HD.out]
            have hi4 := hi3.put (L' := { endL M with ret := true }) 2 (.bool true) rfl rfl
            obtain ⟨d0, d1, d2, d3, hfd⟩ := hi3.cod.all
            have hroom3 := hi3.room
            have HR := hide (hR.next hlt HS.out hi4)
            clear hi3 hi4 HS HC hR c0 c1 c2 c3 hfz
            go_wp2
            exact ⟨⟨k + 1, n + 1, _, _, by go_num, by go_num, HR.out⟩, by simp [intOf]; omega⟩
        by_cases h8 : s[k] = 8
        · have HS := hide (show step M s[k] = ({ M with ret := false, now := M.now.extract 0 (M.now.size - 1) }, 0) by unfold step; rw [if_neg (by simp [hr, h10, h0])]; rw [if_neg (by simp [h13, h10])]; rw [if_pos (.inl h8)])
          have e10 : (((s[k].toNat : Nat) : Int) == (10 : Int)) = false := q10.trans (by simp [h10])
          have e0 : (((s[k].toNat : Nat) : Int) == (0 : Int)) = false := q0.trans (by simp [h0])
          have e13 : (((s[k].toNat : Nat) : Int) == (13 : Int)) = false := q13.trans (by simp [h13])
          have e8 : (((s[k].toNat : Nat) : Int) == (8 : Int)) = true := q8.trans (by simp [h8])
          rw [hr] at c2
          have hn60 := ((gtext_iff M.now).1 hR.fine.now).1
          have HI := hide (show FInv w w.heap.size _ { M with ret := false, now := M.now.extract 0 (M.now.size - 1) } _ _ from hi1.put 0 (.string (M.now.extract 0 (M.now.size - 1))) rfl rfl)
          have HR := hide (hR.next hlt HS.out HI.out)
          clear q10 q0 q13 q8 q127 hi1 HI HS hR h10 h0 h13 h8 hr
          go_wp2
          rw [show ((if ((M.now.size : Nat) : Int) - 1 < 0 then 0 else ((M.now.size : Nat) : Int) - 1) : Int).toNat = M.now.size - 1 by split <;> omega]
          exact ⟨⟨k + 1, n, _, _, by go_num, by go_num, HR.out⟩, by simp [intOf]; omega⟩
        by_cases h127 : s[k] = 127
        · have HS := hide (show step M s[k] = ({ M with ret := false, now := M.now.extract 0 (M.now.size - 1) }, 0) by unfold step; rw [if_neg (by simp [hr, h10, h0])]; rw [if_neg (by simp [h13, h10])]; rw [if_pos (.inr h127)])
          have e10 : (((s[k].toNat : Nat) : Int) == (10 : Int)) = false := q10.trans (by simp [h10])
          have e0 : (((s[k].toNat : Nat) : Int) == (0 : Int)) = false := q0.trans (by simp [h0])
          have e13 : (((s[k].toNat : Nat) : Int) == (13 : Int)) = false := q13.trans (by simp [h13])
          have e8 : (((s[k].toNat : Nat) : Int) == (8 : Int)) = false := q8.trans (by simp [h8])
          have e127 : (((s[k].toNat : Nat) : Int) == (127 : Int)) = true := q127.trans (by simp [h127])
          rw [hr] at c2
          have hn60 := ((gtext_iff M.now).1 hR.fine.now).1
          have HI := hide (show FInv w w.heap.size _ { M with ret := false, now := M.now.extract 0 (M.now.size - 1) } _ _ from hi1.put 0 (.string (M.now.extract 0 (M.now.size - 1))) rfl rfl)
          have HR := hide (hR.next hlt HS.out HI.out)
          clear q10 q0 q13 q8 q127 hi1 HI HS hR h10 h0 h13 h8 h127 hr
          go_wp2
          rw [show ((if ((M.now.size : Nat) : Int) - 1 < 0 then 0 else ((M.now.size : Nat) : Int) - 1) : Int).toNat = M.now.size - 1 by split <;> omega]
          exact ⟨⟨k + 1, n, _, _, by go_num, by go_num, HR.out⟩, by simp [intOf]; omega⟩
        cases hv : vis s[k]
        · have HS := hide (show step M s[k] = ({ M with ret := false }, 0) by unfold step; rw [if_neg (by simp [hr, h10, h0])]; rw [if_neg (by simp [h13, h10])]; rw [if_neg (by simp [h8, h127])]; rw [if_pos hv])
          have e10 : (((s[k].toNat : Nat) : Int) == (10 : Int)) = false := q10.trans (by simp [h10])
          have e0 : (((s[k].toNat : Nat) : Int) == (0 : Int)) = false := q0.trans (by simp [h0])
          have e13 : (((s[k].toNat : Nat) : Int) == (13 : Int)) = false := q13.trans (by simp [h13])
          have e8 : (((s[k].toNat : Nat) : Int) == (8 : Int)) = false := q8.trans (by simp [h8])
          have e127 : (((s[k].toNat : Nat) : Int) == (127 : Int)) = false := q127.trans (by simp [h127])
          rw [hr] at c2
          have HV := hide hv
          have hn60 := ((gtext_iff M.now).1 hR.fine.now).1
          clear hv
          have HI := hide (show FInv w w.heap.size _ { M with ret := false } _ _ from hi1)
          have HR := hide (hR.next hlt HS.out HI.out)
          clear q10 q0 q13 q8 q127 hi1 HI HS hR h10 h0 h13 h8 h127 hr
          go_wp2_with (go_at_call 23; refine (shown_any s[k] _).mono ?_; rintro e w1 ⟨rfl, rfl⟩; rw [HV.out])
          exact ⟨⟨k + 1, n, _, _, by go_num, by go_num, HR.out⟩, by simp [intOf]; omega⟩
        by_cases h60 : M.now.size = 60
        · have HS := hide (show step M s[k] = ({ M with ret := false, long := true }, 0) by unfold step; rw [if_neg (by simp [hr, h10, h0])]; rw [if_neg (by simp [h13, h10])]; rw [if_neg (by simp [h8, h127])]; rw [if_neg (by simp [hv]), if_pos h60])
          have e10 : (((s[k].toNat : Nat) : Int) == (10 : Int)) = false := q10.trans (by simp [h10])
          have e0 : (((s[k].toNat : Nat) : Int) == (0 : Int)) = false := q0.trans (by simp [h0])
          have e13 : (((s[k].toNat : Nat) : Int) == (13 : Int)) = false := q13.trans (by simp [h13])
          have e8 : (((s[k].toNat : Nat) : Int) == (8 : Int)) = false := q8.trans (by simp [h8])
          have e127 : (((s[k].toNat : Nat) : Int) == (127 : Int)) = false := q127.trans (by simp [h127])
          rw [hr] at c2
          have HV := hide hv
          have hn60 := ((gtext_iff M.now).1 hR.fine.now).1
          clear hv
          have HI := hide (show FInv w w.heap.size _ { M with ret := false, long := true } _ _ from hi1.put 1 (.bool true) rfl rfl)
          have HR := hide (hR.next hlt HS.out HI.out)
          clear q10 q0 q13 q8 q127 hi1 HI HS hR h10 h0 h13 h8 h127 hr
          go_wp2_with (go_at_call 23; refine (shown_any s[k] _).mono ?_; rintro e w1 ⟨rfl, rfl⟩; rw [HV.out])
          exact ⟨⟨k + 1, n, _, _, by go_num, by go_num, HR.out⟩, by simp [intOf]; omega⟩
        · have HS := hide (show step M s[k] = ({ M with ret := false, now := M.now ++ ⟨#[s[k]]⟩ }, 0) by unfold step; rw [if_neg (by simp [hr, h10, h0])]; rw [if_neg (by simp [h13, h10])]; rw [if_neg (by simp [h8, h127])]; rw [if_neg (by simp [hv]), if_neg h60])
          have e10 : (((s[k].toNat : Nat) : Int) == (10 : Int)) = false := q10.trans (by simp [h10])
          have e0 : (((s[k].toNat : Nat) : Int) == (0 : Int)) = false := q0.trans (by simp [h0])
          have e13 : (((s[k].toNat : Nat) : Int) == (13 : Int)) = false := q13.trans (by simp [h13])
          have e8 : (((s[k].toNat : Nat) : Int) == (8 : Int)) = false := q8.trans (by simp [h8])
          have e127 : (((s[k].toNat : Nat) : Int) == (127 : Int)) = false := q127.trans (by simp [h127])
          rw [hr] at c2
          have HV := hide hv
          have hn60 := ((gtext_iff M.now).1 hR.fine.now).1
          clear hv
          have hcv := conv_one (wr.setCell ⟨w.heap.size, 2, none⟩ (.bool false)) wr.heap.size (by simp) s[k]
          have hcc : ¬ 9223372036854775807 < M.now.size + 1 := by omega
          have HI := hide (show FInv w w.heap.size _ { M with ret := false, now := M.now ++ ⟨#[s[k]]⟩ } _ _ from (hi1.put (L' := { M with ret := false, now := M.now ++ ⟨#[s[k]]⟩ }) 0 (.string (M.now ++ ⟨#[s[k]]⟩)) rfl rfl).alloc (.cells #[.int .u8 ((s[k].toNat : Nat) : Int)] 5))
          have HR := hide (hR.next hlt HS.out HI.out)
          clear q10 q0 q13 q8 q127 hi1 HI HS hR h10 h0 h13 h8 h127 hr
          go_wp2_with (go_at_call 23; refine (shown_any s[k] _).mono ?_; rintro e w1 ⟨rfl, rfl⟩; rw [HV.out])
          exact ⟨⟨k + 1, n, _, _, by go_num, by go_num, HR.out⟩, by simp [intOf]; omega⟩
    · have hkk : k = s.size := by omega
      have hT : feedL L s.data.toList = (M, n) := by have := hR.eq; rwa [hkk, List.take_of_length_le (by simp)] at this
      have HT := hide hT
      obtain ⟨d0, d1, d2, d3, hfd⟩ := Cod.all (L := zl) (v := .slice none 0 0) hR.inv.other
      clear hT hkk
      go_wp2
      obtain ⟨f1, f2, f3⟩ := hR.inv.done
      refine bodyPost_ret (res3 Try.results8 rfl rfl rfl f1) rfl ?_
      rw [HT.out]
      exact ⟨_, rfl, f2, f3⟩
end Go.Proofs.Ytpbadpebnhlmlab
