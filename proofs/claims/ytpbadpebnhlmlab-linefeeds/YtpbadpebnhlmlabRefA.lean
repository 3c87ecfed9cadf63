/-
  The contracts of the document's own SameTexts, SameLine, CopyLine, clean.
-/
import Derived.Test.YtpbadpebnhlmlabNext
namespace Go.Proofs.Ytpbadpebnhlmlab
open Go.RowKit
set_option linter.unusedVariables false

set_option maxRecDepth 100000 in
set_option maxHeartbeats 400000 in
theorem same26 (q : List ByteArray) (v u : Value) (w : World) (hv : Reads w v q) (hu : Reads w u q) :
    Calls Try.prog 26 #[v, u] w fun e w' => e = .returned (.bool true) ∧ ∃ n, w' = w.drewN n := by
  obtain ⟨av, cap, rfl, hl, hm, _, hc⟩ := hv
  obtain ⟨av', cap', rfl, hl', hm', _, hc'⟩ := hu
  have hq : q.length ≤ 2 ^ 63 - 1 := by unfold maxLen at hm; omega
  clear hl hm hl' hm'
  go_enter Try.func26, Try.ntmps26
  go_wp2
  go_loopw [13] (fun i wr => ∃ k m : Nat, k ≤ q.length ∧ i = .int .i64 k ∧ wr = w.drewN m) (fun i _ => q.length - (intOf i).toNat)
  case atStart => exact ⟨0, 0, Nat.zero_le _, rfl, rfl⟩
  case round =>
    obtain ⟨k, m, hk, rfl, rfl⟩ := hrel
    by_cases hlt : k < q.length
    · obtain ⟨b, off, rfl, hcell⟩ := hc (by omega)
      obtain ⟨b', off', rfl, hcell'⟩ := hc' (by omega)
      have c1 := hcell k hlt
      have c2 := hcell' k hlt
      clear hc hc' hcell hcell'
      go_wp2
      go_region
      all_goals go_wp2
      all_goals exact ⟨⟨k + 1, _, hlt, by go_num, rfl⟩, by simp [intOf]; omega⟩
    · clear hc hc'
      go_wp2
      go_ret
      exact ⟨rfl, _, rfl⟩

set_option maxRecDepth 100000 in
set_option maxHeartbeats 1000000 in
theorem same10 (L : Lin) (v u : Value) (w : World) (hv : Reads w v L.q) (hu : Reads w u L.q) :
    Calls Try.prog 10 #[.agg (L.cells v), .agg (L.cells u)] w fun e w' => e = .returned (.bool true) ∧ Below w.heap.size w w' := by
  have H := hide (fun w' h1 h2 => same26 L.q v u w' h1 h2)
  have hv1 := hide hv
  have hu1 := hide hu
  obtain ⟨av, cap, rfl, _⟩ := hv
  obtain ⟨av', cap', rfl, _⟩ := hu
  unfold Lin.cells
  go_enter Try.func10, Try.ntmps10
  go_wp2_with (go_at_call 26; refine (H.out _ ((hv1.out.alloc _).alloc _) ((hu1.out.alloc _).alloc _)).mono ?_; rintro e w1 ⟨rfl, n, rfl⟩)
  go_ret
  exact ⟨rfl, below_drewN (((Below.refl _ _).alloc (Nat.le_refl _) _).alloc (by simp) _) _⟩

theorem res1 {fn : Func} {p : Tmp} (hf : fn.results = #[.cell p 24]) {tmps : Array Value} {w : World} {b : Nat} {L : Lin} {v : Value}
    (h4 : tmps.getD p undef = .pointer (some ⟨b, 0, none⟩)) (hc : Cod w b L v) :
    (results fn tmps).run Try.prog w = .ok (.agg (L.cells v)) w := by
  simp only [Array.getD_eq_getD_getElem?] at h4
  simp only [results, hf]
  simp [h4, asAddr, load24 w b L v hc]

set_option maxRecDepth 100000 in
set_option maxHeartbeats 400000 in
theorem copy_any (L : Lin) (v : Value) (w : World) (hv : Reads w v L.q) (hq : L.q.length ≤ 8796093022208) :
    Calls Try.prog 7 #[.agg (L.cells v)] w fun e w' => ∃ v', e = .returned (.agg (L.cells v')) ∧ w'.ownsRow (w.heap.size + 2) 9 1 v' L.q.length (scells L.q) ∧ Below w.heap.size w w' := by
  obtain ⟨i0, hi, hz0, hz1, hz2⟩ := info_parts Try.info9
  obtain ⟨av, cap, rfl, hl, hm, hn, hc⟩ := hv
  cases av with
  | none =>
    have hc0 := hn rfl
    subst hc0
    obtain ⟨now, long, ret, q⟩ := L
    obtain rfl : q = [] := List.eq_nil_of_length_eq_zero (by simp only at hl; omega)
    clear hl hm hn hc hq
    unfold Lin.cells
    go_enter Try.func7, Try.ntmps7
    go_wp2
    have hcd : Cod ((w.alloc (.cells #[.string now, .bool long, .bool ret, .slice none 0 0] 24)).alloc (.cells #[.string now, .bool long, .bool ret, .slice none 0 0] 24)) (w.heap.size + 1) ⟨now, long, ret, []⟩ (.slice none 0 0) := by
      have := heap_alloc_new (w.alloc (.cells #[.string now, .bool long, .bool ret, .slice none 0 0] 24)) (.cells #[.string now, .bool long, .bool ret, .slice none 0 0] 24)
      rw [World.size_alloc] at this
      exact this
    exact bodyPost_ret (res1 Try.results7 rfl hcd) rfl ⟨_, rfl, World.ownsRow_nil _ _ _ _, ((Below.refl _ _).alloc (Nat.le_refl _) _).alloc (by simp) _⟩
  | some a =>
    have hlist := Reads.list (cap := cap) hc
    replace hlist := hide hlist
    clear hc hn
    unfold Lin.cells
    go_enter Try.func7, Try.ntmps7
    go_wp2_with (at_builtin; refine wpList_append_own_at _ rfl (.const (.slice none 0 0)) (.tmp 4) 22 rfl (w.heap.size + 2) 9 i0 (.string ⟨#[]⟩) 1 16 Try.underlying22 hi hz0 hz1 hz2 rfl (by decide) _ 0 [] rfl (World.ownsRow_nil _ _ _ _) a L.q.length cap (scells L.q) rfl ?c1 ?c2 (scells_one _) ?c3 ?c4 ?c5 ?_)
    case c1 => simp [scells]
    case c2 =>
      intro j u hj
      have h := hlist.out j u hj
      have hlt := cell_lt h
      rw [(((Below.refl w.heap.size w).alloc (Nat.le_refl _) _).alloc (by simp) _).cell (p := a.add j) hlt]; exact h
    case c3 => unfold maxLen; omega
    case c4 => omega
    case c5 => simp
    intro v' w' ho hg _ _
    have hb : Below ((w.alloc (.cells (L.cells (.slice (some a) L.q.length cap)) 24)).alloc (.cells (zl.cells (.slice none 0 0)) 24)).heap.size ((w.alloc (.cells (L.cells (.slice (some a) L.q.length cap)) 24)).alloc (.cells (zl.cells (.slice none 0 0)) 24)) w' :=
      (Below.refl _ _).grown hg (Nat.le_refl _) (fun k e => by simp [Value.ownBlock] at e)
    obtain ⟨l2, k2, o2, hi2⟩ := finv_start (L := L) (v := .slice (some a) L.q.length cap) (v2 := v') (Below.refl _ _) hb (own_base (by simpa using ho) (by simp))
    obtain ⟨av2, cap2, rfl⟩ := own_shape (show w'.ownsRow (w.heap.size + 2) 9 1 v' L.q.length (scells L.q) by simpa using ho)
    obtain ⟨c0, c1, c2, c3, hfz⟩ := k2.all
    obtain ⟨d0, d1, d2, d3, hfd⟩ := Cod.all (L := zl) (v := .slice none 0 0) o2
    have hz2 : w.heap.size + 1 < w'.heap.size := (Array.getElem?_eq_some_iff.1 o2).1
    replace hi2 := hide hi2
    clear o2 k2 hb ho hg l2
    go_wp2
    obtain ⟨f1, f2, f3⟩ := hi2.out.done
    have ho2 := hi2.out.own.kept (grown_four (b := w.heap.size + 1) (x0 := .string L.now) (x1 := .bool L.long) (x2 := .bool L.ret) (x3 := .slice av2 L.q.length cap2)) (by right; intro e; have := hi2.out.own.lt _ e; omega)
    exact bodyPost_ret (res1 Try.results7 rfl f1) rfl ⟨_, rfl, ho2, f3⟩

end Go.Proofs.Ytpbadpebnhlmlab
