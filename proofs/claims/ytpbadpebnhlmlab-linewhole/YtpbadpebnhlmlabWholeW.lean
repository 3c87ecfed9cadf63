/-
  The walk of the law LineWhole.
-/
import Derived.Test.YtpbadpebnhlmlabWhole0
namespace Go.Proofs.Ytpbadpebnhlmlab
open Go.RowKit
set_option linter.unusedVariables false

theorem Reads.drewN {w : World} {v : Value} {q : List ByteArray} (h : Reads w v q) (m : Nat) : Reads (w.drewN m) v q :=
  h.below (below_drewN (Below.refl w.heap.size w) m) (Nat.le_refl _)

theorem ends_at (r : Nat) (hr : r < 4) : ∃ T ρ, Ends T ρ ∧ ∀ w : World, (Instr.index 36 (.agg #[.string ⟨#[13, 10]⟩, .string ⟨#[10]⟩, .string ⟨#[13, 0]⟩, .string ⟨#[13]⟩]) (.int .i64 r)).run Try.prog w = .ok (.string T) w := by
  match r, hr with
  | 0, _ => exact ⟨_, _, .inl ⟨rfl, rfl⟩, fun w => by kernel_rfl⟩
  | 1, _ => exact ⟨_, _, .inr (.inl ⟨rfl, rfl⟩), fun w => by kernel_rfl⟩
  | 2, _ => exact ⟨_, _, .inr (.inr (.inl ⟨rfl, rfl⟩)), fun w => by kernel_rfl⟩
  | 3, _ => exact ⟨_, _, .inr (.inr (.inr ⟨rfl, rfl⟩)), fun w => by kernel_rfl⟩

set_option maxRecDepth 100000 in
set_option maxHeartbeats 2000000 in
theorem whole_walk (q : List ByteArray) (v : Value) (n : Int) (w : World) (hv : Reads w v q) (hs : ∀ s ∈ q, s.size ≤ maxLen) (hk : -9223372036854775808 ≤ n) (hk' : n ≤ 9223372036854775807) :
    Calls Try.prog 5 #[v, .int .i64 n] w fun e w' => e = .returned (.bool true) ∧ Below w.heap.size w w' := by
  have HV := hide hv
  obtain ⟨av, cap, rfl, hcl, hcm, _, hc⟩ := hv
  have hlm : q.length ≤ 2 ^ 63 - 1 := by unfold maxLen at hcm; omega
  obtain ⟨i0, hi, hz0, hz1, hz2⟩ := info_parts Try.info9
  go_enter Try.func5, Try.ntmps5
  go_wp2_with (go_at_call 18; refine (pick_any n 4 _ hk hk' (by omega) (by omega)).mono ?_; rintro e w1 ⟨⟨r, hr, rfl⟩, hw⟩; rw [hw]; clear hw; obtain ⟨T, ρ, hT, hix⟩ := ends_at r (by omega))
  replace hT := hide hT
  clear hix
  go_loopw [6, 7, 8] (fun s u i wr => ∃ k : Nat, k ≤ q.length ∧ k ≤ 6 ∧ i = .int .i64 k ∧ s = .string (txt T (q.take k)) ∧ Hid (∀ x ∈ q.take k, gtext x = true) ∧ wr.ownsRow w.heap.size 9 1 u (q.take k).length (scells (q.take k)) ∧ Below w.heap.size w wr) (fun _ _ i _ => 6 - (intOf i).toNat)
  case atStart => exact ⟨0, Nat.zero_le _, Nat.zero_le _, rfl, rfl, hide (by simp), World.ownsRow_nil _ _ _ _, Below.refl _ _⟩
  case round =>
    obtain ⟨k, hkl, hk6, rfl, rfl, hg, hown, hb⟩ := hrel
    have hsz := txt_size hT.out (q.take k) hg.out
    have htl6 : (q.take k).length ≤ 6 := by simp; omega
    have htk := ends_size hT.out
    by_cases hlt : k < q.length ∧ k < 6
    · obtain ⟨hlt, hlt6⟩ := hlt
      obtain ⟨b, off, rfl, hcell⟩ := hc (by omega)
      have hck0 := hcell k hlt
      have hblt := cell_lt hck0
      have hck : wr.cell? ⟨b, off + k, none⟩ = some (.string q[k]) := by rw [hb.cell (p := ⟨b, off + k, none⟩) hblt]; exact hck0
      have hsk := hs q[k] (List.getElem_mem hlt)
      have HS := hide (show q.take (k + 1) = q.take k ++ [q[k]] from List.take_succ_eq_append_getElem hlt)
      clear hcell hc
      cases hgk : gtext q[k]
      · have HG := hide hgk
        clear hgk
        go_wp2_with (first | (go_at_call 19; refine (clean_any q[k] _ hsk).mono ?_; rintro e w1 ⟨rfl, hw⟩; rw [HG.out, hw]; clear hw) | (go_at_call 16; refine (reads16 _).mono ?_; rintro e w1 ⟨rfl, hb1⟩))
        go_ret
        exact ⟨rfl, hb.trans (hb1.mono hb.size)⟩
      · have HG := hide hgk
        have h60 := ((gtext_iff q[k]).1 hgk).1
        have hc1 : ¬ 9223372036854775807 < q[k].size + T.size := by omega
        have hc2 : ¬ 9223372036854775807 < (txt T (q.take k)).size + (q[k].size + T.size) := by omega
        clear hgk
        go_wp2_with (first | (go_at_call 19; refine (clean_any q[k] _ hsk).mono ?_; rintro e w1 ⟨rfl, hw⟩; rw [HG.out, hw]; clear hw) | (at_builtin; refine wpList_append_own_at _ rfl (.tmp 39) (.tmp 44) 22 rfl w.heap.size 9 i0 (.string ⟨#[]⟩) 1 16 Try.underlying22 hi hz0 hz1 hz2 rfl (by decide) _ (q.take k).length (scells (q.take k)) rfl (hown.alloc _) ⟨wr.heap.size, 0, none⟩ 1 1 (scells [q[k]]) rfl ?c1 ?c2 (scells_one _) ?c3 ?c4 ?c5 ?_))
        case c1 => rfl
        case c2 =>
          intro j u hj
          cases j with
          | zero => simp [scells] at hj; subst hj; exact cell_new rfl _ _
          | succ j => simp [scells] at hj
        case c3 => unfold maxLen; omega
        case c4 => omega
        case c5 => have := hb.size; simp; omega
        intro v' w' ho hgr _ _
        have hb' : Below w.heap.size w w' := (hb.alloc hb.size _).grown hgr (by have := hb.size; simp; omega) (fun j e => (hown.lt j e).1)
        have hck' : w'.cell? ⟨b, off + k, none⟩ = some (.string q[k]) := by rw [hb'.cell (p := ⟨b, off + k, none⟩) hblt]; exact hck0
        have ho' : w'.ownsRow w.heap.size 9 1 v' (q.take (k + 1)).length (scells (q.take (k + 1))) := by
          rw [HS.out, scells_append, List.length_append, show (q.take k).length = k by simp; omega]; exact ho
        have hg' : ∀ x ∈ q.take (k + 1), gtext x = true := by
          rw [HS.out]; intro x hx; rw [List.mem_append] at hx
          rcases hx with hx | hx
          · exact hg.out x hx
          · simp at hx; subst hx; exact HG.out
        have HX := hide (show txt T (q.take (k + 1)) = txt T (q.take k) ++ (q[k] ++ T) by rw [HS.out, txt_snoc])
        replace hg' := hide hg'
        clear hck hgr ho hg hown
        go_wp2
        exact ⟨⟨k + 1, hlt, hlt6, by go_num, by rw [HX.out], hg', ho', hb'⟩, by simp [intOf]; omega⟩
    · by_cases hkl2 : k < q.length
      · have hk66 : k = 6 := by omega
        have hnl : ¬ k < 6 := by omega
        clear hk66 hlt
        have hQl : (q.take k).length ≤ 6 := htl6
        obtain ⟨rr, hrr, hfeed⟩ := feed_txt hT.out (q.take k) hg.out hQl
        have C1 := hide (fun w => feed_good zl (.slice none 0 0) (txt T (q.take k)) w (reads_nil w) fine_zl (by unfold maxLen; omega))
        rw [hfeed] at C1
        obtain ⟨avu, capu, rfl⟩ := own_shape hown
        have hu := reads_own hown
        replace hu := hide hu
        unfold zl Lin.cells at C1
        simp only at C1
        clear hc hown hfeed hrr
        generalize q.take k = Q at *
        go_wp2_with fail
        refine (C1.out _).mono ?_
        rintro e w1 ⟨v1, rfl, hr1, hb1⟩
        have l1 : Below w.heap.size w w1 := hb.trans (hb1.mono hb.size)
        have hu1 := hide (hu.out.below hb1 (Nat.le_refl _))
        obtain ⟨av1, cap1, rfl⟩ := hr1.shape
        replace hr1 := hide hr1
        clear C1 hb hb1 hu
        go_wp2_with fail
        refine (same20 Q _ _ _ (hr1.out.alloc _) (hu1.out.alloc _)).mono ?_
        rintro e w2 ⟨rfl, m, rfl⟩
        go_wp2_with fail
        refine (reads16 _).mono ?_
        rintro e w3 ⟨rfl, hb3⟩
        have l3 : Below w.heap.size w w3 := (below_drewN (l1.alloc l1.size _) m).trans (hb3.mono (by have := l1.size; simp; omega))
        have k3 : Cod w3 w1.heap.size ⟨⟨#[]⟩, false, rr, Q⟩ (.slice av1 Q.length cap1) := by
          unfold Cod
          rw [hb3.block _ (by simp)]
          exact heap_alloc_new w1 _
        have hr3 : Reads w3 (.slice av1 Q.length cap1) Q := ((hr1.out.alloc _).drewN m).below hb3 (Nat.le_refl _)
        have hu3 : Reads w3 (.slice avu Q.length capu) Q := ((hu1.out.alloc _).drewN m).below hb3 (Nat.le_refl _)
        have hoff1 : 0 < Q.length → ∀ b off n c, Value.slice av1 Q.length cap1 = .slice (some ⟨b, off, none⟩) n c → b ≠ w1.heap.size := fun h0 b off n c e => by have := hr1.out.lt h0 b off n c e; omega
        have hoffu : 0 < Q.length → ∀ b off n c, Value.slice avu Q.length capu = .slice (some ⟨b, off, none⟩) n c → b ≠ w1.heap.size := fun h0 b off n c e => by have := hu1.out.lt h0 b off n c e; omega
        have hz1 := l1.size
        have HOU := hide hoffu
        have HST := hide (⟨k3, hr3, hu3, l3, hoff1⟩ : _ ∧ _ ∧ _ ∧ _ ∧ _)
        obtain ⟨c0, c1, c2, c3, cfz⟩ := k3.all
        clear hb3 hr3 hu3 k3 l3 hoff1 hoffu hr1 hu1 l1
        go_wp2
        go_loopw [85] (fun i wr2 => ∃ (j : Nat) (y : Value) (P : List ByteArray), j ≤ Q.length ∧ i = .int .i64 j ∧ Hid (P = Q.drop j) ∧ Cod wr2 w1.heap.size ⟨⟨#[]⟩, false, rr, P⟩ y ∧ Reads wr2 y P ∧ Reads wr2 (.slice avu Q.length capu) Q ∧ Below w.heap.size w wr2 ∧ Hid (0 < P.length → ∀ b off n c, y = .slice (some ⟨b, off, none⟩) n c → b ≠ w1.heap.size)) (fun i _ => Q.length - (intOf i).toNat)
        case atStart =>
          obtain ⟨k3, hr3, hu3, l3, hoff1⟩ := HST.out
          exact ⟨0, _, Q, Nat.zero_le _, rfl, rfl, k3, hr3, hu3, l3, hoff1⟩
        case round =>
          clear c0 c1 c2 c3 cfz HST
          obtain ⟨j, y, P, hj, rfl, hP, kc, hry, hru, lr, hoff⟩ := hrel
          obtain ⟨avy, capy, rfl⟩ := hry.shape
          obtain ⟨c0, c1, c2, c3, cfz⟩ := kc.all
          have hzr := kc.lt
          by_cases hlt : j < Q.length
          · obtain ⟨P', hP'⟩ : ∃ P', Hid (P' = Q.drop (j + 1)) := ⟨_, rfl⟩
            have hdrop : P = Q[j] :: P' := by rw [hP.out, hP'.out]; exact List.drop_eq_getElem_cons hlt
            have HC := hide (next_cons ⟨⟨#[]⟩, false, rr, P⟩ _ wr hry Q[j] P' hdrop (by simp only [hP.out, List.length_drop]; omega))
            unfold Lin.cells at HC
            replace hry := hide hry
            replace hru := hide hru
            replace lr := hide lr
            replace kc := hide kc
            have HD := hide hdrop
            clear hdrop
            go_wp2_with fail
            refine HC.out.mono ?_
            rintro e w4 ⟨y', rfl, hr4, hb4, hfar⟩
            have kc4 : Cod w4 w1.heap.size ⟨⟨#[]⟩, false, rr, P⟩ (.slice avy P.length capy) := by unfold Cod; rw [hb4.block _ hzr]; exact kc.out
            have hru4 := hru.out.below hb4 (Nat.le_refl _)
            have lr4 : Below w.heap.size w w4 := lr.out.trans (hb4.mono lr.out.size)
            obtain ⟨av', cap', rfl⟩ := hr4.shape
            have hoff4 : 0 < P'.length → ∀ b off n c, Value.slice av' P'.length cap' = .slice (some ⟨b, off, none⟩) n c → b ≠ w1.heap.size := fun _ b off n c e => by have := hfar b off n c e; omega
            have hzq := hru4
            obtain ⟨_, _, eu, _, hmu, _, hcu⟩ := hzq
            injection eu with eu1 eu2 eu3
            subst eu1 eu3
            obtain ⟨bu, offu, rfl, hcellu⟩ := hcu (by omega)
            have hcu := hcellu j hlt
            have hbne : ¬ bu = w1.heap.size := HOU.out (by omega) bu offu _ _ rfl
            have HF := hide (⟨kc4, hr4, hru4, lr4, hoff4⟩ : _ ∧ _ ∧ _ ∧ _ ∧ _)
            clear c0 c1 c2 c3 cfz
            obtain ⟨c0, c1, c2, c3, cfz⟩ := kc4.all
            have hz4 := kc4.lt
            clear hcellu hfar hb4 hru lr kc hry kc4 hru4 lr4 hr4 hoff4
            go_wp2
            obtain ⟨kc4, hr4, hru4, lr4, hoff4⟩ := HF.out
            refine ⟨⟨j + 1, .slice av' P'.length cap', P', hlt, by go_num, hP', cod_four (L := ⟨⟨#[]⟩, false, rr, P'⟩) kc4, ?_, ?_, below_four lr4 hz1, hoff4⟩, by simp [intOf]; omega⟩
            · exact (((hr4.put hoff4 _ _).put hoff4 _ _).put hoff4 _ _).put hoff4 _ _
            · exact (((hru4.put HOU.out _ _).put HOU.out _ _).put HOU.out _ _).put HOU.out _ _
          · have hP0 : P = [] := by rw [hP.out]; exact List.drop_eq_nil_of_le (by omega)
            subst hP0
            have HC := hide (next_nil ⟨⟨#[]⟩, false, rr, []⟩ _ wr hry rfl)
            unfold Lin.cells at HC
            replace lr := hide lr
            clear hry hru kc
            go_wp2_with fail
            refine HC.out.mono ?_
            rintro e w4 ⟨y', rfl, hr4, hb4⟩
            obtain ⟨av', cap', rfl⟩ := hr4.shape
            clear hr4
            go_wp2
            go_ret
            exact ⟨rfl, (lr.out.trans (hb4.mono lr.out.size)).alloc (by have := lr.out.size; have := hb4.size; omega) _⟩
      · clear hlt
        have hQl : (q.take k).length ≤ 6 := htl6
        obtain ⟨rr, hrr, hfeed⟩ := feed_txt hT.out (q.take k) hg.out hQl
        have C1 := hide (fun w => feed_good zl (.slice none 0 0) (txt T (q.take k)) w (reads_nil w) fine_zl (by unfold maxLen; omega))
        rw [hfeed] at C1
        obtain ⟨avu, capu, rfl⟩ := own_shape hown
        have hu := reads_own hown
        replace hu := hide hu
        unfold zl Lin.cells at C1
        simp only at C1
        clear hc hown hfeed hrr
        generalize q.take k = Q at *
        go_wp2_with fail
        refine (C1.out _).mono ?_
        rintro e w1 ⟨v1, rfl, hr1, hb1⟩
        have l1 : Below w.heap.size w w1 := hb.trans (hb1.mono hb.size)
        have hu1 := hide (hu.out.below hb1 (Nat.le_refl _))
        obtain ⟨av1, cap1, rfl⟩ := hr1.shape
        replace hr1 := hide hr1
        clear C1 hb hb1 hu
        go_wp2_with fail
        refine (same20 Q _ _ _ (hr1.out.alloc _) (hu1.out.alloc _)).mono ?_
        rintro e w2 ⟨rfl, m, rfl⟩
        go_wp2_with fail
        refine (reads16 _).mono ?_
        rintro e w3 ⟨rfl, hb3⟩
        have l3 : Below w.heap.size w w3 := (below_drewN (l1.alloc l1.size _) m).trans (hb3.mono (by have := l1.size; simp; omega))
        have k3 : Cod w3 w1.heap.size ⟨⟨#[]⟩, false, rr, Q⟩ (.slice av1 Q.length cap1) := by
          unfold Cod
          rw [hb3.block _ (by simp)]
          exact heap_alloc_new w1 _
        have hr3 : Reads w3 (.slice av1 Q.length cap1) Q := ((hr1.out.alloc _).drewN m).below hb3 (Nat.le_refl _)
        have hu3 : Reads w3 (.slice avu Q.length capu) Q := ((hu1.out.alloc _).drewN m).below hb3 (Nat.le_refl _)
        have hoff1 : 0 < Q.length → ∀ b off n c, Value.slice av1 Q.length cap1 = .slice (some ⟨b, off, none⟩) n c → b ≠ w1.heap.size := fun h0 b off n c e => by have := hr1.out.lt h0 b off n c e; omega
        have hoffu : 0 < Q.length → ∀ b off n c, Value.slice avu Q.length capu = .slice (some ⟨b, off, none⟩) n c → b ≠ w1.heap.size := fun h0 b off n c e => by have := hu1.out.lt h0 b off n c e; omega
        have hz1 := l1.size
        have HOU := hide hoffu
        have HST := hide (⟨k3, hr3, hu3, l3, hoff1⟩ : _ ∧ _ ∧ _ ∧ _ ∧ _)
        obtain ⟨c0, c1, c2, c3, cfz⟩ := k3.all
        clear hb3 hr3 hu3 k3 l3 hoff1 hoffu hr1 hu1 l1
        go_wp2
        go_loopw [85] (fun i wr2 => ∃ (j : Nat) (y : Value) (P : List ByteArray), j ≤ Q.length ∧ i = .int .i64 j ∧ Hid (P = Q.drop j) ∧ Cod wr2 w1.heap.size ⟨⟨#[]⟩, false, rr, P⟩ y ∧ Reads wr2 y P ∧ Reads wr2 (.slice avu Q.length capu) Q ∧ Below w.heap.size w wr2 ∧ Hid (0 < P.length → ∀ b off n c, y = .slice (some ⟨b, off, none⟩) n c → b ≠ w1.heap.size)) (fun i _ => Q.length - (intOf i).toNat)
        case atStart =>
          obtain ⟨k3, hr3, hu3, l3, hoff1⟩ := HST.out
          exact ⟨0, _, Q, Nat.zero_le _, rfl, rfl, k3, hr3, hu3, l3, hoff1⟩
        case round =>
          clear c0 c1 c2 c3 cfz HST
          obtain ⟨j, y, P, hj, rfl, hP, kc, hry, hru, lr, hoff⟩ := hrel
          obtain ⟨avy, capy, rfl⟩ := hry.shape
          obtain ⟨c0, c1, c2, c3, cfz⟩ := kc.all
          have hzr := kc.lt
          by_cases hlt : j < Q.length
          · obtain ⟨P', hP'⟩ : ∃ P', Hid (P' = Q.drop (j + 1)) := ⟨_, rfl⟩
            have hdrop : P = Q[j] :: P' := by rw [hP.out, hP'.out]; exact List.drop_eq_getElem_cons hlt
            have HC := hide (next_cons ⟨⟨#[]⟩, false, rr, P⟩ _ wr hry Q[j] P' hdrop (by simp only [hP.out, List.length_drop]; omega))
            unfold Lin.cells at HC
            replace hry := hide hry
            replace hru := hide hru
            replace lr := hide lr
            replace kc := hide kc
            have HD := hide hdrop
            clear hdrop
            go_wp2_with fail
            refine HC.out.mono ?_
            rintro e w4 ⟨y', rfl, hr4, hb4, hfar⟩
            have kc4 : Cod w4 w1.heap.size ⟨⟨#[]⟩, false, rr, P⟩ (.slice avy P.length capy) := by unfold Cod; rw [hb4.block _ hzr]; exact kc.out
            have hru4 := hru.out.below hb4 (Nat.le_refl _)
            have lr4 : Below w.heap.size w w4 := lr.out.trans (hb4.mono lr.out.size)
            obtain ⟨av', cap', rfl⟩ := hr4.shape
            have hoff4 : 0 < P'.length → ∀ b off n c, Value.slice av' P'.length cap' = .slice (some ⟨b, off, none⟩) n c → b ≠ w1.heap.size := fun _ b off n c e => by have := hfar b off n c e; omega
            have hzq := hru4
            obtain ⟨_, _, eu, _, hmu, _, hcu⟩ := hzq
            injection eu with eu1 eu2 eu3
            subst eu1 eu3
            obtain ⟨bu, offu, rfl, hcellu⟩ := hcu (by omega)
            have hcu := hcellu j hlt
            have hbne : ¬ bu = w1.heap.size := HOU.out (by omega) bu offu _ _ rfl
            have HF := hide (⟨kc4, hr4, hru4, lr4, hoff4⟩ : _ ∧ _ ∧ _ ∧ _ ∧ _)
            clear c0 c1 c2 c3 cfz
            obtain ⟨c0, c1, c2, c3, cfz⟩ := kc4.all
            have hz4 := kc4.lt
            clear hcellu hfar hb4 hru lr kc hry kc4 hru4 lr4 hr4 hoff4
            go_wp2
            obtain ⟨kc4, hr4, hru4, lr4, hoff4⟩ := HF.out
            refine ⟨⟨j + 1, .slice av' P'.length cap', P', hlt, by go_num, hP', cod_four (L := ⟨⟨#[]⟩, false, rr, P'⟩) kc4, ?_, ?_, below_four lr4 hz1, hoff4⟩, by simp [intOf]; omega⟩
            · exact (((hr4.put hoff4 _ _).put hoff4 _ _).put hoff4 _ _).put hoff4 _ _
            · exact (((hru4.put HOU.out _ _).put HOU.out _ _).put HOU.out _ _).put HOU.out _ _
          · have hP0 : P = [] := by rw [hP.out]; exact List.drop_eq_nil_of_le (by omega)
            subst hP0
            have HC := hide (next_nil ⟨⟨#[]⟩, false, rr, []⟩ _ wr hry rfl)
            unfold Lin.cells at HC
            replace lr := hide lr
            clear hry hru kc
            go_wp2_with fail
            refine HC.out.mono ?_
            rintro e w4 ⟨y', rfl, hr4, hb4⟩
            obtain ⟨av', cap', rfl⟩ := hr4.shape
            clear hr4
            go_wp2
            go_ret
            exact ⟨rfl, (lr.out.trans (hb4.mono lr.out.size)).alloc (by have := lr.out.size; have := hb4.size; omega) _⟩
end Go.Proofs.Ytpbadpebnhlmlab
