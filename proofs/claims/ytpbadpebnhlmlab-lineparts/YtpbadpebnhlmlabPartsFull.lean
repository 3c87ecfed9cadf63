/-
  Proved: for all lines and text in two parts, the law inglenookkeep.LineParts of the landed program returns true and leaves its arguments as they were: what comes of one part and then of the other is what comes of both together. No condition.
-/
import Derived.Test.YtpbadpebnhlmlabPartsV
import Derived.Test.YtpbadpebnhlmlabOpen2
namespace Go.Proofs.Ytpbadpebnhlmlab.lineParts
open Go.ChangeShapes Go.WideShapes Go.ChangeAt Go.RowKit
open Go.ChangeMaps (open_string shut_string)
set_option linter.unusedVariables false

theorem walk (L : Lin) (v : Value) (a b : ByteArray) (w : World) (hv : Reads w v L.q) (hs : Small L) (hq : L.q.length ≤ 8796093022208) (hab : a.size + b.size ≤ 281474976710656) :
    Calls Try.prog 4 #[.agg (L.cells v), .string a, .string b] w fun e w' => e = .returned (.bool true) ∧ Below w.heap.size w w' := by
  cases hg : good L
  · exact parts_badV L v a b w hv hs hq hab hg
  · exact parts_goodV L v a b w hv ((fine_iff L).1 hg) hab

set_option maxRecDepth 100000 in
theorem lifted (os : Os) (started : os.Started) (H : Type) (enc : TypeId × Value → H) :
    ReturnsInHanded {} Try.checked os 4 .any (Rows.linePartsSpec.pre6 enc Try.prog Try.f4 Rows.linePartsRow.domain false) (Rows.linePartsSpec.post enc Try.prog Try.f4 false true false false) := by
  refine returnsInHanded_of_change_sized (C := Try.checked) Try.own started (by kernel_rfl) Try.func4
    (ChangeSpec.witness6 (enc := enc) (C := Try.checked) false ⟨#[], #[.agg #[.string .empty, .bool false, .bool false, .slice none 0 0], .string .empty, .string .empty], []⟩ 8 (by kernel_rfl) (by kernel_rfl) (by kernel_rfl) (by kernel_rfl)) ?_
  intro W base args ds gs before hval0 hW hcnd hwt _
  have hval : ∀ (j : Nat) t v, Try.f4.params[j]? = some t → args[j]? = some v → Value.okWide Try.prog W .any base t v := hval0
  have hW' := hW
  obtain ⟨p, q, hA0, hV, rfl, hfz, hnd⟩ := hW
  have hA : DataW.TrodAll enc Try.prog W 0 (fun _ => true) true Try.f4.params.toList args.toList ds p := hA0
  rw [Try.params4] at hA hval
  obtain ⟨v0, vs0, d0, ds0, p0, q0, hargs, rfl, rfl, h0, r0⟩ := trodAll_cons hA
  obtain ⟨v1, vs1, d1, ds1, p1, q1, rfl, rfl, rfl, h1, r1⟩ := trodAll_cons r0
  obtain ⟨v2, vs2, d2, ds2, p2, q2, rfl, rfl, rfl, h2, r2⟩ := trodAll_cons r1
  obtain ⟨rfl, rfl, rfl⟩ := trodAll_nil r2
  obtain rfl : args = #[v0, v1, v2] := by cases args; simp_all
  obtain ⟨rfl, rfl⟩ := trodVars_none hV
  obtain ⟨L, u, rfl, hr, hs, hbk⟩ := open_line2 (hval 0 24 v0 rfl rfl) h0
  obtain ⟨s, rfl, rfl, rfl, hmax⟩ := open_string Try.underlying9 (hval 1 9 v1 rfl rfl) h1
  obtain ⟨s', rfl, rfl, rfl, hmax'⟩ := open_string Try.underlying9 (hval 2 9 v2 rfl rfl) h2
  have hz1 := sized_string (H := H) hwt (j := 1) (by show _ = some 9; kernel_rfl) rfl
  have hz2 := sized_string (H := H) hwt (j := 2) (by show _ = some 9; kernel_rfl) rfl
  rw [Array.length_toList] at hz1 hz2
  have hs1 : s.size ≤ reachBytes := hz1
  have hs2 : s'.size ≤ reachBytes := hz2
  have hb0 := hbk (List.all_eq_true.2 fun n hn => List.all_eq_true.1 hwt n (DataW.weights_mem_each (j := 0) (by show _ = some 24; kernel_rfl) rfl n hn))
  have hlt := reachBytes_lt
  clear hA0 hval0
  simp only [List.append_nil] at hW'
  refine (walk L u s s' W hr hs (by omega) (by omega)).mono fun e W' ⟨he, hb⟩ => ?_
  subst he
  refine ⟨_, rfl, post_true hW' (by kernel_rfl) rfl (pa := p0 ++ ([] ++ ([] ++ []))) ?_ rfl hb⟩
  rw [Try.params4]
  exact trodAll_cons_mk (hb.trod Try.laidOut Try.rec24 (of_decide_eq_true (by kernel_rfl)) h0 (trod_lt' h0)) (trodAll_cons_mk (hb.trod Try.laidOut Try.rec9 (of_decide_eq_true (by kernel_rfl)) h1 (by simp)) (trodAll_cons_mk (hb.trod Try.laidOut Try.rec9 (of_decide_eq_true (by kernel_rfl)) h2 (by simp)) trodAll_mk0))

theorem proved : Rows.LinePartsSaid :=
  OpenClaim.holds_of_wide 4 Try.f4 rfl rfl rfl rfl rfl rfl rfl ⟨rfl, rfl, rfl, rfl, rfl⟩ rfl rfl rfl rfl rfl (by kernel_rfl) Try.func4 (by kernel_rfl)
    (of_decide_eq_true (by kernel_rfl)) (by unfold Func.isWrapper; first | (rw [if_pos (by decide +kernel)]; kernel_rfl) | (rw [if_neg (by decide +kernel)]; exact ⟨rfl, rfl⟩))
    (fun os started H enc _ => lifted os started H enc)
#print axioms proved
end Go.Proofs.Ytpbadpebnhlmlab.lineParts
