/-
  Proved: for every pair of codecs and every single command (a verb's byte and an option's byte), the law inglenookkeep.TelnetEnds of the landed program returns true and leaves its arguments as they were: what is answered to the command, and to that answer, comes to an end. No condition.
-/
import Derived.Test.YtchkohogfcgknaaEndsX
import Derived.Test.YtchkohogfcgknaaOpen
namespace Go.Proofs.Ytchkohogfcgknaa.telnetEnds
open Go.ChangeShapes Go.WideShapes Go.ChangeAt Go.RowKit
open Go.ChangeMaps (open_string shut_string)
set_option linter.unusedVariables false

theorem walk (t u : Tel) (v o : Int) (w : World) (ht : t.sub.size ≤ maxLen) (hu : u.sub.size ≤ maxLen) (hv : (Lit.int .u8 v).wf = true) (ho : (Lit.int .u8 o).wf = true) :
    Calls Try.prog 8 #[t.val, u.val, .int .u8 v, .int .u8 o] w fun e w' => e = .returned (.bool true) ∧ Below w.heap.size w w' := by
  have bv : 0 ≤ v ∧ v ≤ 255 := by simpa [Lit.wf, IntKind.min, IntKind.max, IntKind.signed, IntKind.bits] using hv
  have bo : 0 ≤ o ∧ o ≤ 255 := by simpa [Lit.wf, IntKind.min, IntKind.max, IntKind.signed, IntKind.bits] using ho
  rw [← byteOf v bv.1 bv.2, ← byteOf o bo.1 bo.2]
  cases hg : good t
  · exact ends_else t u _ _ w ht hu (.inl hg)
  cases hg2 : good u
  · exact ends_else t u _ _ w ht hu (.inr ⟨hg, hg2⟩)
  · exact ends_good t u _ _ w ((fine_iff t).1 hg) ((fine_iff u).1 hg2)

set_option maxRecDepth 100000 in
theorem lifted (os : Os) (started : os.Started) (H : Type) (enc : TypeId × Value → H) :
    ReturnsInHanded {} Try.checked os 8 .any (Rows.telnetEndsSpec.pre6 enc Try.prog Try.f8 Rows.telnetEndsRow.domain false) (Rows.telnetEndsSpec.post enc Try.prog Try.f8 false true false false) := by
  refine returnsInHanded_of_change (C := Try.checked) Try.own started (by kernel_rfl) Try.func8
    (ChangeSpec.witness6 (enc := enc) (C := Try.checked) false ⟨#[], #[zt.val, zt.val, .int .u8 0, .int .u8 0], []⟩ 8 (by kernel_rfl) (by kernel_rfl) (by kernel_rfl) (by kernel_rfl)) ?_
  intro W base args ds gs before hval0 hW hcnd _
  have hval : ∀ (j : Nat) t v, Try.f8.params[j]? = some t → args[j]? = some v → Value.okWide Try.prog W .any base t v := hval0
  have hW' := hW
  obtain ⟨p, q, hA0, hV, rfl, hfz, hnd⟩ := hW
  have hA : DataW.TrodAll enc Try.prog W 0 (fun _ => true) true Try.f8.params.toList args.toList ds p := hA0
  rw [Try.params8] at hA hval
  obtain ⟨v0, vs0, d0, ds0, p0, q0, hargs, rfl, rfl, h0, r0⟩ := trodAll_cons hA
  obtain ⟨v1, vs1, d1, ds1, p1, q1, rfl, rfl, rfl, h1, r1⟩ := trodAll_cons r0
  obtain ⟨v2, vs2, d2, ds2, p2, q2, rfl, rfl, rfl, h2, r2⟩ := trodAll_cons r1
  obtain ⟨v3, vs3, d3, ds3, p3, q3, rfl, rfl, rfl, h3, r3⟩ := trodAll_cons r2
  obtain ⟨rfl, rfl, rfl⟩ := trodAll_nil r3
  obtain rfl : args = #[v0, v1, v2, v3] := by cases args; simp_all
  obtain ⟨rfl, rfl⟩ := trodVars_none hV
  obtain ⟨t, rfl, ht, rfl⟩ := open_tel (hval 0 25 v0 rfl rfl) h0
  obtain ⟨u, rfl, hu, rfl⟩ := open_tel (hval 1 25 v1 rfl rfl) h1
  obtain ⟨v, rfl, rfl, rfl, wv⟩ := open_int Try.underlying5 (hval 2 5 v2 rfl rfl) h2
  obtain ⟨o, rfl, rfl, rfl, wo⟩ := open_int Try.underlying5 (hval 3 5 v3 rfl rfl) h3
  clear hA0 hval0
  simp only [List.append_nil] at hW'
  refine (walk t u v o W ht hu wv wo).mono fun e W' ⟨he, hb⟩ => ?_
  subst he
  refine ⟨_, rfl, post_true hW' (by kernel_rfl) rfl (pa := [] ++ ([] ++ ([] ++ ([] ++ [])))) ?_ rfl hb⟩
  rw [Try.params8]
  exact trodAll_cons_mk (hb.trod Try.laidOut Try.rec25 (of_decide_eq_true (by kernel_rfl)) h0 (by simp)) (trodAll_cons_mk (hb.trod Try.laidOut Try.rec25 (of_decide_eq_true (by kernel_rfl)) h1 (by simp))
    (trodAll_cons_mk (hb.trod Try.laidOut Try.rec5 (of_decide_eq_true (by kernel_rfl)) h2 (by simp)) (trodAll_cons_mk (hb.trod Try.laidOut Try.rec5 (of_decide_eq_true (by kernel_rfl)) h3 (by simp)) trodAll_mk0)))

theorem proved : Rows.TelnetEndsSaid :=
  OpenClaim.holds_of_wide 8 Try.f8 rfl rfl rfl rfl rfl rfl rfl ⟨rfl, rfl, rfl, rfl, rfl⟩ rfl rfl rfl rfl rfl (by kernel_rfl) Try.func8 (by kernel_rfl)
    (of_decide_eq_true (by kernel_rfl)) (by unfold Func.isWrapper; first | (rw [if_pos (by decide +kernel)]; kernel_rfl) | (rw [if_neg (by decide +kernel)]; exact ⟨rfl, rfl⟩))
    (fun os started H enc _ => lifted os started H enc)
#print axioms proved
end Go.Proofs.Ytchkohogfcgknaa.telnetEnds
