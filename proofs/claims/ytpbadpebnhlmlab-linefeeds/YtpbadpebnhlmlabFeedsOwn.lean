/-
  Proved: for all lines and text, the law inglenooklaw.LineFeeds of the landed program returns true and leaves its arguments as they were: Good, Feed and Next answer exactly what the document says of them, errors too. No condition.
-/
import Derived.Test.YtpbadpebnhlmlabFeedsW
import Derived.Test.YtpbadpebnhlmlabOpen2
namespace Go.Proofs.Ytpbadpebnhlmlab.lineFeeds
open Go.ChangeShapes Go.WideShapes Go.ChangeAt Go.RowKit
open Go.ChangeMaps (open_string shut_string)
set_option linter.unusedVariables false

theorem walk (L : Lin) (v : Value) (s : ByteArray) (w : World) (hv : Reads w v L.q) (hs : Small L) (hq : L.q.length ≤ 8796093022208) (hz : s.size ≤ maxLen) :
    Calls Try.prog 3 #[.agg (L.cells v), .string s] w fun e w' => e = .returned (.bool true) ∧ Below w.heap.size w w' := by
  cases hg : good L
  · exact feeds_walk L L 0 2 v s w hv hs hq (fun v w h => feed_bad L v s w h hs hq hg) (fun v w h => reffeed_bad L v s w h hs hg)
  · have hf := (fine_iff L).1 hg
    exact feeds_walk L (feedL L s.data.toList).1 (feedL L s.data.toList).2 0 v s w hv hs hq (fun v w h => feed_good L v s w h hf hz) (fun v w h => reffeed_good L v s w h hf hz)

set_option maxRecDepth 100000 in
theorem lifted (os : Os) (started : os.Started) (H : Type) (enc : TypeId × Value → H) :
    ReturnsInHanded {} Try.checked os 3 .any (Rows.lineFeedsSpec.pre6 enc Try.prog Try.f3 Rows.lineFeedsRow.domain false) (Rows.lineFeedsSpec.post enc Try.prog Try.f3 false true false false) := by
  refine returnsInHanded_of_change_sized (C := Try.checked) Try.own started (by kernel_rfl) Try.func3
    (ChangeSpec.witness6 (enc := enc) (C := Try.checked) false ⟨#[], #[.agg #[.string .empty, .bool false, .bool false, .slice none 0 0], .string .empty], []⟩ 8 (by kernel_rfl) (by kernel_rfl) (by kernel_rfl) (by kernel_rfl)) ?_
  intro W base args ds gs before hval0 hW hcnd hwt _
  have hval : ∀ (j : Nat) t v, Try.f3.params[j]? = some t → args[j]? = some v → Value.okWide Try.prog W .any base t v := hval0
  have hW' := hW
  obtain ⟨p, q, hA0, hV, rfl, hfz, hnd⟩ := hW
  have hA : DataW.TrodAll enc Try.prog W 0 (fun _ => true) true Try.f3.params.toList args.toList ds p := hA0
  rw [Try.params3] at hA hval
  obtain ⟨v0, vs0, d0, ds0, p0, q0, hargs, rfl, rfl, h0, r0⟩ := trodAll_cons hA
  obtain ⟨v1, vs1, d1, ds1, p1, q1, rfl, rfl, rfl, h1, r1⟩ := trodAll_cons r0
  obtain ⟨rfl, rfl, rfl⟩ := trodAll_nil r1
  obtain rfl : args = #[v0, v1] := by cases args; simp_all
  obtain ⟨rfl, rfl⟩ := trodVars_none hV
  obtain ⟨L, u, rfl, hr, hs, hbk⟩ := open_line2 (hval 0 24 v0 rfl rfl) h0
  obtain ⟨s, rfl, rfl, rfl, hmax⟩ := open_string Try.underlying9 (hval 1 9 v1 rfl rfl) h1
  have hb0 := hbk (List.all_eq_true.2 fun n hn => List.all_eq_true.1 hwt n (DataW.weights_mem_each (j := 0) (by show _ = some 24; kernel_rfl) rfl n hn))
  have hlt := reachBytes_lt
  clear hA0 hval0
  simp only [List.append_nil] at hW'
  refine (walk L u s W hr hs (by omega) hmax).mono fun e W' ⟨he, hb⟩ => ?_
  subst he
  refine ⟨_, rfl, post_true hW' (by kernel_rfl) rfl (pa := p0 ++ ([] ++ [])) ?_ rfl hb⟩
  rw [Try.params3]
  exact trodAll_cons_mk (hb.trod Try.laidOut Try.rec24 (of_decide_eq_true (by kernel_rfl)) h0 (trod_lt' h0)) (trodAll_cons_mk (hb.trod Try.laidOut Try.rec9 (of_decide_eq_true (by kernel_rfl)) h1 (by simp)) trodAll_mk0)

theorem proved : Rows.LineFeedsSaid :=
  OpenClaim.holds_of_wide 3 Try.f3 rfl rfl rfl rfl rfl rfl rfl ⟨rfl, rfl, rfl, rfl, rfl⟩ rfl rfl rfl rfl rfl (by kernel_rfl) Try.func3 (by kernel_rfl)
    (of_decide_eq_true (by kernel_rfl)) (by unfold Func.isWrapper; first | (rw [if_pos (by decide +kernel)]; kernel_rfl) | (rw [if_neg (by decide +kernel)]; exact ⟨rfl, rfl⟩))
    (fun os started H enc _ => lifted os started H enc)
#print axioms proved
end Go.Proofs.Ytpbadpebnhlmlab.lineFeeds
