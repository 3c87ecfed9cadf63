/-
  The contract of Feed of package telnet.
-/
import Derived.Test.YtbjcmnemcgadjaaInv
namespace Go.Proofs.Ytbjcmnemcgadjaa
open Go.RowKit
set_option linter.unusedVariables false

set_option maxRecDepth 100000 in
set_option maxHeartbeats 400000 in
theorem feed_bad (t : Tel) (s : ByteArray) (w : World) (hsub : t.sub.size ≤ maxLen) (hg : good t = false) :
    Calls Try.prog 9 #[t.val, .string s] w fun e w' => e = .returned (.tuple #[t.val, .string ⟨#[]⟩, .string ⟨#[]⟩, .int .i64 2]) ∧ Below w.heap.size w w' := by
  unfold Tel.val Tel.cells
  go_enter Try.func9, Try.ntmps9
  go_wp2_with (go_at_call 11; refine (good_any t _ hsub).mono ?_; rintro e w1 ⟨rfl, hb1⟩; obtain ⟨hc1, hf1⟩ := bcell hb1; have hz1 : w.heap.size + 1 < w1.heap.size := (by have := hb1.size; simp at this; omega))
  have hcod : Cod w1 (w.heap.size + 1) zt := by
    show w1.heap[w.heap.size + 1]? = _
    rw [hb1.block _ (by simp)]
    have := heap_alloc_new (w.alloc (.cells t.cells 25)) (.cells zt.cells 25)
    rw [World.size_alloc] at this
    exact this
  refine bodyPost_ret (res4 Try.results9 rfl rfl rfl rfl (cod_ten hcod)) rfl ⟨rfl, ?_⟩
  have hb : Below w.heap.size w w1 := (((Below.refl _ _).alloc (Nat.le_refl _) _).alloc (by simp) _).trans (hb1.mono (by simp; omega))
  exact below_ten hb (by omega)

set_option maxRecDepth 100000 in
set_option maxHeartbeats 8000000 in
theorem feed_good (t : Tel) (s : ByteArray) (w : World) (hfine : Fine t) (hs : s.size ≤ 2097152) :
    Calls Try.prog 9 #[t.val, .string s] w fun e w' => e = .returned (.tuple #[(feedL t s.data.toList).1.val, .string ⟨(feedL t s.data.toList).2.1.toArray⟩, .string ⟨(feedL t s.data.toList).2.2.toArray⟩, .int .i64 0]) ∧ Below w.heap.size w w' := by
  have hsub : t.sub.size ≤ maxLen := by have := hfine.sub16; unfold maxLen; omega
  have hg : good t = true := (fine_iff t).2 hfine
  have HF := hide hfine
  clear hfine
  unfold Tel.val Tel.cells
  go_enter Try.func9, Try.ntmps9
  go_wp2_with (go_at_call 11; refine (good_any t _ hsub).mono ?_; rintro e w1 ⟨rfl, hb1⟩)
  go_loopw [8, 9, 10] (fun vt va i wr => ∃ (k : Nat) (T : Tel) (X Y : List UInt8), i = .int .i64 k ∧ Rel w t s k T vt va X Y wr) (fun _ _ i _ => s.size - (intOf i).toNat)
  case atStart =>
    refine ⟨0, t, [], [], rfl, Nat.zero_le _, rfl, HF.out, ?_, ?_, ?_, World.ownsRow_nil _ _ _ _, World.ownsRow_nil _ _ _ _, ?_⟩
    · exact (((Below.refl _ _).alloc (Nat.le_refl _) _).alloc (by simp) _).trans (hb1.mono (by simp; omega))
    · show w1.heap[w.heap.size]? = _
      rw [hb1.block _ (by simp; omega), Below.heap_alloc _ _ _ (by simp)]
      exact heap_alloc_new w _
    · show w1.heap[w.heap.size + 1]? = _
      rw [hb1.block _ (by simp)]
      have := heap_alloc_new (w.alloc (.cells t.cells 25)) (.cells zt.cells 25)
      rw [World.size_alloc] at this
      exact this
    · intro k e; simp [Value.ownBlock] at e
  case round =>
    obtain ⟨k, T, X, Y, rfl, hR⟩ := hrel
    have hk := hR.le
    clear hb1
    obtain ⟨c0, c1, c2, c3, c4, c5, c6, c7, c8, c9, hfz⟩ := hR.inv.cod.all
    by_cases hlt : k < s.size
    · have hf := hR.fine
      have hsm := hR.small
      have p0 := hf.pos0
      have p4 := hf.pos4
      have s16 := hf.sub16
      have hroom := hR.inv.room
      have k255 := byte_beq s[k] 255 (by omega)
      have hw : wrap64 ((s[k].toNat : Nat) : Int) = s[k].toNat := by have := s[k].toNat_lt; unfold wrap64; omega
      have b255 : s[k].toNat < 256 := s[k].toNat_lt
      have hcod := hR.inv.cod
      by_cases hp0 : T.pos = 0
      · rw [hp0] at c0
        by_cases hc : s[k] = 255
        · have hS : step T s[k] = ({ T with pos := 1 }, [], []) := by unfold step; rw [if_pos hp0, if_pos hc]
          have HR := hide (hR.next hlt hS (by simpa using hR.inv.turn (cod_mk (cod_set hR.inv.cod 0 (.int .i64 1)) rfl) (grown_set (grown_refl _ _) _ _)))
          have ec : (((s[k].toNat : Nat) : Int) == 255) = true := by simp [hc]
          clear hS hc k255 hf hp0 p0 p4 s16 hg
          go_wp2
          exact ⟨⟨k + 1, _, _, _, by go_num, HR.out⟩, by simp [intOf]; omega⟩
        · have HS := hide (show step T s[k] = (T, [s[k]], []) by unfold step; rw [if_pos hp0, if_neg hc])
          have ec : (((s[k].toNat : Nat) : Int) == 255) = false := by simpa [hc] using k255
          clear hc k255 hf hp0 p0 p4 s16 hg
          go_wp2_with (at_builtin; refine wp_append1 _ rfl (.tmp 32) (.tmp 34) rfl (w.heap.size + 2) _ X rfl (hR.inv.own1.alloc _) s[k] ⟨wr.heap.size, 0, none⟩ rfl ?c1 ?c2 ?c3 ?_)
          case c1 => simp
          case c2 => omega
          case c3 => simp; omega
          intro v2 w2 ho2 hg2 hb2
          have hi2 := (hR.inv.alloc (.cells #[.int .u8 ((s[k].toNat : Nat) : Int)] 5)).app1 (z := X ++ [s[k]]) (by rw [List.length_append]; exact ho2) hg2 (by simpa using hb2)
          clear ho2 hg2 hb2
          go_wp2
          exact ⟨⟨k + 1, _, _, _, by go_num, hR.next hlt HS.out (by simpa using hi2)⟩, by simp [intOf]; omega⟩
      by_cases hp1 : T.pos = 1
      · rw [hp1] at c0
        by_cases hc : s[k] = 255
        · have HS := hide (show step T s[k] = (cmd T s[k].toNat, [s[k]], []) by unfold step; rw [if_neg hp0, if_pos hp1, if_pos hc])
          have ec : (((s[k].toNat : Nat) : Int) == 255) = true := by simp [hc]
          clear hc k255 hf hp0 hp1 p0 p4 s16 hg
          go_wp2_with (at_builtin; refine wp_append1 _ rfl (.tmp 40) (.tmp 42) rfl (w.heap.size + 2) _ X rfl (hR.inv.own1.alloc _) s[k] ⟨wr.heap.size, 0, none⟩ rfl ?c1 ?c2 ?c3 ?_)
          case c1 => simp
          case c2 => omega
          case c3 => simp; omega
          intro v2 w2 ho2 hg2 hb2
          have hi2 := (hR.inv.alloc (.cells #[.int .u8 ((s[k].toNat : Nat) : Int)] 5)).app1 (z := X ++ [s[k]]) (by rw [List.length_append]; exact ho2) hg2 (by simpa using hb2)
          clear ho2 hg2 hb2
          have hcd2 := hi2.cod
          go_wp2_with (go_at_call 21; refine (command_any T w.heap.size _ _ hcd2).mono ?_; rintro e w3 ⟨rfl, hcd3, hgr3⟩)
          exact ⟨⟨k + 1, _, _, _, by go_num, hR.next hlt HS.out (by simpa using hi2.turn hcd3 hgr3)⟩, by simp [intOf]; omega⟩
        · have HS := hide (show step T s[k] = (cmd T s[k].toNat, [], []) by unfold step; rw [if_neg hp0, if_pos hp1, if_neg hc])
          have ec : (((s[k].toNat : Nat) : Int) == 255) = false := by simpa [hc] using k255
          clear hc k255 hf hp0 hp1 p0 p4 s16 hg
          go_wp2_with (go_at_call 21; refine (command_any T w.heap.size _ _ hcod).mono ?_; rintro e w3 ⟨rfl, hcd3, hgr3⟩)
          exact ⟨⟨k + 1, _, _, _, by go_num, hR.next hlt HS.out (by simpa using hR.inv.turn hcd3 hgr3)⟩, by simp [intOf]; omega⟩
      by_cases hp2 : T.pos = 2
      · rw [hp2] at c0
        have hv := hf.verb2 hp2
        have HS := hide (show step T s[k] = ((setl T s[k].toNat).1, [], (setl T s[k].toNat).2) by unfold step; rw [if_neg hp0, if_neg hp1, if_pos hp2])
        have hl3 := setl_len T s[k].toNat
        clear k255 hf hp0 hp1 hp2 p0 p4 s16 hg
        go_wp2_with fail
        refine (settle_any T w.heap.size _ _ hcod hv.1 hv.2 (by omega) (by omega)).mono ?_
        rintro e w3 ⟨rfl, hcd3, hgr3⟩
        have hi3 := hR.inv.turn hcd3 hgr3
        have hroom3 := hi3.room
        clear hcd3 hgr3 hv
        go_wp2_with (at_builtin; refine wp_appendS _ rfl (.tmp 49) (.tmp 52) rfl (w.heap.size + 2) _ Y (setl T s[k].toNat).2 rfl hi3.own2 rfl ?c2 ?c3 ?_)
        case c2 => omega
        case c3 => omega
        intro v4 w4 ho4 hg4 hb4
        have hi4 := hi3.app2 (z := Y ++ (setl T s[k].toNat).2) (by rw [List.length_append]; exact ho4) hg4 hb4
        clear ho4 hg4 hb4
        go_wp2
        exact ⟨⟨k + 1, _, _, _, by go_num, hR.next hlt HS.out (by simpa using hi4)⟩, by simp [intOf]; omega⟩
      by_cases hp3 : T.pos = 3
      · rw [hp3] at c0
        by_cases hc : s[k] = 255
        · have hS : step T s[k] = ({ T with pos := 4 }, [], []) := by unfold step; rw [if_neg hp0, if_neg hp1, if_neg hp2, if_pos hp3, if_pos hc]
          have HR := hide (hR.next hlt hS (by simpa using hR.inv.turn (cod_mk (cod_set hR.inv.cod 0 (.int .i64 4)) rfl) (grown_set (grown_refl _ _) _ _)))
          have ec : (((s[k].toNat : Nat) : Int) == 255) = true := by simp [hc]
          clear hS hc k255 hf hp0 hp1 hp2 hp3 p0 p4 s16 hg
          go_wp2
          exact ⟨⟨k + 1, _, _, _, by go_num, HR.out⟩, by simp [intOf]; omega⟩
        · have HS := hide (show step T s[k] = (kp T s[k], [], []) by unfold step; rw [if_neg hp0, if_neg hp1, if_neg hp2, if_pos hp3, if_neg hc])
          have ec : (((s[k].toNat : Nat) : Int) == 255) = false := by simpa [hc] using k255
          clear hc k255 hf hp0 hp1 hp2 hp3 p0 p4 hg
          go_wp2_with (go_at_call 23; refine (keep_any T w.heap.size s[k] _ hcod s16).mono ?_; rintro e w3 ⟨rfl, hcd3, hgr3⟩)
          exact ⟨⟨k + 1, _, _, _, by go_num, hR.next hlt HS.out (by simpa using hR.inv.turn hcd3 hgr3)⟩, by simp [intOf]; omega⟩
      have hp4 : T.pos = 4 := by omega
      rw [hp4] at c0
      by_cases hc : s[k] = 255
      · have HS := hide (show step T s[k] = (kp { T with pos := 3 } s[k], [], []) by unfold step; rw [if_neg hp0, if_neg hp1, if_neg hp2, if_neg hp3, if_pos hc])
        have ec : (((s[k].toNat : Nat) : Int) == 255) = true := by simp [hc]
        clear hc k255 hf hp0 hp1 hp2 hp3 hp4 p0 p4 hg
        have hi2 := hR.inv.turn (t' := { T with pos := 3 }) (cod_mk (cod_set hR.inv.cod 0 (.int .i64 3)) rfl) (grown_set (grown_refl _ _) _ _)
        go_wp2_with (go_at_call 23; refine (keep_any { T with pos := 3 } w.heap.size s[k] _ hi2.cod s16).mono ?_; rintro e w3 ⟨rfl, hcd3, hgr3⟩)
        exact ⟨⟨k + 1, _, _, _, by go_num, hR.next hlt HS.out (by simpa using hi2.turn hcd3 hgr3)⟩, by simp [intOf]; omega⟩
      · have HS := hide (show step T s[k] = (fin T s[k], [], []) by unfold step; rw [if_neg hp0, if_neg hp1, if_neg hp2, if_neg hp3, if_neg hc])
        have ec : (((s[k].toNat : Nat) : Int) == 255) = false := by simpa [hc] using k255
        clear hc k255 hf hp0 hp1 hp2 hp3 hp4 p0 p4 hg
        go_wp2_with (go_at_call 24; refine (finish_any T w.heap.size s[k] _ hcod s16).mono ?_; rintro e w3 ⟨rfl, hcd3, hgr3⟩)
        exact ⟨⟨k + 1, _, _, _, by go_num, hR.next hlt HS.out (by simpa using hR.inv.turn hcd3 hgr3)⟩, by simp [intOf]; omega⟩
    · have hkk : k = s.size := by omega
      have hT : feedL t s.data.toList = (T, X, Y) := by have := hR.eq; rwa [hkk, List.take_of_length_le (by simp)] at this
      have HT := hide hT
      obtain ⟨hX, hY⟩ := hR.inv.convs (grown_refl _ _)
      obtain ⟨hX', hY'⟩ := hR.inv.convs (grown_ten (t := T) (grown_refl _ _))
      obtain ⟨d0, d1, d2, d3, d4, d5, d6, d7, d8, d9, hfd⟩ := hR.inv.res.all
      clear hT hkk hg
      go_wp2
      go_region
      go_wp2
      refine bodyPost_ret (res4 Try.results9 rfl rfl rfl rfl (cod_drew (cod_ten hR.inv.res))) rfl ⟨?_, (below_ten hR.inv.below (by omega)).drew⟩
      rw [HT.out]
      rfl
end Go.Proofs.Ytbjcmnemcgadjaa
