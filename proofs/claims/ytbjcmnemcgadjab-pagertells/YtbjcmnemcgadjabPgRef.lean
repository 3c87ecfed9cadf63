/-
  The contracts of the document's own GoodPage, CopyPage, SameTexts, SamePage, SendPage, TakePage, and of Send of package pager.
-/
import Derived.Test.YtbjcmnemcgadjabPgShows
namespace Go.Proofs.Ytbjcmnemcgadjab
open Go.RowKit
set_option linter.unusedVariables false

set_option maxRecDepth 100000 in
set_option maxHeartbeats 400000 in
theorem goodpage_any (P : Pg) (v : Value) (w : World) (hv : Reads w v P.wait) (hs : Small P) : Calls Try.prog 28 #[.agg (P.cells v)] w fun e w' => e = .returned (.bool (goodP P)) ∧ Below w.heap.size w w' := by
  have hr := hs.ring
  have hl := hv.max
  obtain ⟨av, cap, rfl⟩ := hv.shape
  unfold maxLen at hl
  clear hv hs
  unfold Pg.cells
  by_cases h1 : P.wait.length ≤ 60
  · by_cases h2 : P.ring.size ≤ 700
    · by_cases h3 : 0 ≤ P.shown
      · by_cases h4 : P.shown ≤ 200
        · have HV := hide (by simp [goodP, gheight, h1, h2, h3, h4] : goodP P = true)
          go_enter Try.func28, Try.ntmps28
          go_wp2
          go_ret
          exact ⟨ret_bool (by rw [HV.out]), (Below.refl _ _).alloc (Nat.le_refl _) _⟩
        · have HV := hide (by simp [goodP, gheight, h4] : goodP P = false)
          go_enter Try.func28, Try.ntmps28
          go_wp2
          go_ret
          exact ⟨ret_bool (by rw [HV.out]), (Below.refl _ _).alloc (Nat.le_refl _) _⟩
      · have HV := hide (by simp [goodP, gheight, h3] : goodP P = false)
        go_enter Try.func28, Try.ntmps28
        go_wp2
        go_ret
        exact ⟨ret_bool HV.out.symm, (Below.refl _ _).alloc (Nat.le_refl _) _⟩
    · have HV := hide (by simp [goodP, h2] : goodP P = false)
      go_enter Try.func28, Try.ntmps28
      go_wp2
      go_ret
      exact ⟨ret_bool HV.out.symm, (Below.refl _ _).alloc (Nat.le_refl _) _⟩
  · have HV := hide (by simp [goodP, h1] : goodP P = false)
    go_enter Try.func28, Try.ntmps28
    go_wp2
    go_ret
    exact ⟨ret_bool HV.out.symm, (Below.refl _ _).alloc (Nat.le_refl _) _⟩

set_option maxRecDepth 100000 in
set_option maxHeartbeats 400000 in
theorem copypage_all (P : Pg) (v : Value) (w : World) (hv : Reads w v P.wait) (hs : Small P) :
    Calls Try.prog 23 #[.agg (P.cells v)] w fun e w' => ∃ v', e = .returned (.agg (P.cells v')) ∧ w'.ownsRow (w.heap.size + 2) 9 1 v' P.wait.length (scells P.wait) ∧ Below w.heap.size w w' := by
  obtain ⟨i0, hi0, hz0, hz1, hzb⟩ := info_parts Try.info9
  have hq := hs.len
  obtain ⟨av, cap, rfl, hl, hm, hn, hc⟩ := hv
  obtain ⟨k1, k2⟩ := cod_two (w := w) (P := P) (v := .slice av P.wait.length cap)
  cases av with
  | none =>
    have hc0 := hn rfl
    subst hc0
    obtain ⟨q, sh, ak, rg, ct⟩ := P
    obtain rfl : q = [] := List.eq_nil_of_length_eq_zero (by simp only at hl; omega)
    clear hl hm hn hc hq hs k1 k2
    have hT := hide (two_new (w := w) (P := ⟨[], sh, ak, rg, ct⟩) (v := .slice none 0 0))
    unfold Pg.cells
    go_enter Try.func23, Try.ntmps23
    go_upto_region 1 with fail
    go_cut [] (fun wc => Two w ⟨[], sh, ak, rg, ct⟩ (.slice none 0 0) wc)
    case first =>
      go_wp2_with fail
      go_meet
      exact hT.out
    case rest =>
      obtain ⟨c0, c1, c2, c3, c4, cfz⟩ := hcut.cod.all
      obtain ⟨d0, d1, d2, d3, d4, dfz⟩ := hcut.other.all
      have hz := hcut.room
      replace hcut := hide hcut
      dsimp only at c0 c1 c2 c3 c4
      clear hT
      go_wp2
      obtain ⟨f1, f3⟩ := hcut.out.done (P' := ⟨[], sh, ak, rg, ct⟩) (v' := .slice none 0 0)
      exact bodyPost_ret (res1 Try.results23 rfl f1) rfl ⟨_, rfl, World.ownsRow_nil _ _ _ _, f3⟩
  | some a =>
    have hlist := Reads.list (cap := cap) hc
    replace hlist := hide hlist
    clear hc hn hs
    unfold Pg.cells
    go_enter Try.func23, Try.ntmps23
    go_wp2_with (at_builtin; refine wpList_append_own_at _ rfl (.const (.slice none 0 0)) (.tmp 4) 22 rfl (w.heap.size + 2) 9 i0 (.string ⟨#[]⟩) 1 16 Try.underlying22 hi0 hz0 hz1 hzb rfl (by decide) _ 0 [] rfl (World.ownsRow_nil _ _ _ _) a P.wait.length cap (scells P.wait) rfl ?a1 ?a2 (scells_one _) ?a3 ?a4 ?a5 ?_)
    case a1 => simp [scells]
    case a2 =>
      intro j u hj
      have h := hlist.out j u hj
      have hlt := cell_lt h
      rw [(((Below.refl w.heap.size w).alloc (Nat.le_refl _) _).alloc (by simp) _).cell (p := a.add j) hlt]; exact h
    case a3 => unfold maxLen; omega
    case a4 => omega
    case a5 => simp
    intro v2 w2 ho hg _ _
    have hb2 : Below (w.heap.size + 2) ((w.alloc (.cells (P.cells (.slice (some a) P.wait.length cap)) 43)).alloc (.cells (zp.cells (.slice none 0 0)) 43)) w2 :=
      (Below.refl _ _).grown hg (by simp) (fun k e => by simp [Value.ownBlock] at e)
    have ho2 : w2.ownsRow (w.heap.size + 2) 9 1 v2 P.wait.length (scells P.wait) := by simpa using ho
    have hi := inv_clone (P := P) (v := .slice (some a) P.wait.length cap) hb2 (reads_own ho2) (far_own ho2)
    obtain ⟨av2, cap2, rfl⟩ := own_shape ho2
    obtain ⟨c0, c1, c2, c3, c4, hfz⟩ := (cod_behind k1 hb2 (by simp)).all
    obtain ⟨d0, d1, d2, d3, d4, hfd⟩ := (cod_behind k2 hb2 (by simp)).all
    have hz2 := (cod_behind k2 hb2 (by simp)).lt
    have HO := hide (own_put ho2 (b := w.heap.size) (by omega) 0 (.slice av2 P.wait.length cap2))
    replace hi := hide hi
    clear k1 k2 hb2 ho ho2 hg
    go_wp2
    obtain ⟨f1, f2, f3⟩ := hi.out.done
    exact bodyPost_ret (res1 Try.results23 rfl f1) rfl ⟨_, rfl, own_five HO.out (by omega), f3⟩

set_option maxRecDepth 100000 in
set_option maxHeartbeats 400000 in
theorem sametexts_any (q : List ByteArray) (v u : Value) (w : World) (hv : Reads w v q) (hu : Reads w u q) :
    Calls Try.prog 42 #[v, u] w fun e w' => e = .returned (.bool true) ∧ ∃ n, w' = w.drewN n := by
  obtain ⟨av, cap, rfl, hl, hm, _, hc⟩ := hv
  obtain ⟨av', cap', rfl, hl', hm', _, hc'⟩ := hu
  have hq : q.length ≤ 2 ^ 63 - 1 := by unfold maxLen at hm; omega
  clear hl hm hl' hm'
  go_enter Try.func42, Try.ntmps42
  go_wp2
  go_loopw [13] (fun i wr => ∃ k m : Nat, k ≤ q.length ∧ i = .int .i64 k ∧ wr = w.drewN m) (fun i _ => q.length - (intOf i).toNat)
  case atStart => exact ⟨0, 0, Nat.zero_le _, rfl, rfl⟩
  case round =>
    obtain ⟨k, m, hk, rfl, rfl⟩ := hrel
    by_cases hlt : k < q.length
    · obtain ⟨b, off, rfl, hcell⟩ := hc (by omega)
      obtain ⟨b', off', rfl, hcell'⟩ := hc' (by omega)
      have c1 := hcell k hlt
      have c2 := hcell' k hlt
      clear hc hc' hcell hcell'
      go_wp2
      go_region
      all_goals go_wp2
      all_goals exact ⟨⟨k + 1, _, hlt, by go_num, rfl⟩, by simp [intOf]; omega⟩
    · clear hc hc'
      go_wp2
      go_ret
      exact ⟨rfl, _, rfl⟩

set_option maxRecDepth 100000 in
set_option maxHeartbeats 1000000 in
theorem samepage_any (P : Pg) (v u : Value) (w : World) (hv : Reads w v P.wait) (hu : Reads w u P.wait) :
    Calls Try.prog 26 #[.agg (P.cells v), .agg (P.cells u)] w fun e w' => e = .returned (.bool true) ∧ Below w.heap.size w w' := by
  have H := hide (fun w' h1 h2 => sametexts_any P.wait v u w' h1 h2)
  have hv1 := hide hv
  have hu1 := hide hu
  obtain ⟨av, cap, rfl, _⟩ := hv
  obtain ⟨av', cap', rfl, _⟩ := hu
  unfold Pg.cells
  go_enter Try.func26, Try.ntmps26
  go_wp2_with (go_at_call 42; refine (H.out _ ((hv1.out.alloc _).alloc _) ((hu1.out.alloc _).alloc _)).mono ?_; rintro e w1 ⟨rfl, n, rfl⟩)
  go_ret
  exact ⟨rfl, below_drewN (((Below.refl _ _).alloc (Nat.le_refl _) _).alloc (by simp) _) _⟩
end Go.Proofs.Ytbjcmnemcgadjab
