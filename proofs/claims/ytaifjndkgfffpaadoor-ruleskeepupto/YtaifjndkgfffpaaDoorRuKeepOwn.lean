/-
  Proved: for every land, number and order whose reading is of bulk at most 1048576, the law inglenookkeep.RulesKeep of the landed program returns true and leaves its arguments as they were: whatever is ordered, the land stays good, no thing is lost or turned into another one, nobody else is moved, and nothing that others have. Condition: the bulk of what is read is at most 1048576, and that the verbs are laid as the program's text lays them (the card ties that).
-/
import Derived.Test.YtaifjndkgfffpaaDoorRuKeepW
import Derived.Test.YtaifjndkgfffpaaDoorRuOpenO
namespace Go.Proofs.YtaifjndkgfffpaaDoor.rulesKeep
open Go.ChangeShapes Go.WideShapes Go.ChangeAt Go.RowKit
open Go.ChangeMaps (open_string shut_string)
set_option linter.unusedVariables false

set_option maxRecDepth 100000 in
theorem contract (H : Type) (enc : TypeId × Value → H) (W : World) (base : Nat) (args : Array Value) (ds gs : List (DataW H)) (before : List MemPlace)
    (hval : ∀ (j : Nat) t v, Tryd.f5.params[j]? = some t → args[j]? = some v → Value.okWide Tryd.prog W .any base t v)
    (hW : DataW.Whole enc Tryd.prog Tryd.f5.params.toList Rows.rulesKeepSpec.vars false W args.toList ds gs before)
    (hk : Rows.uptoSmall H (ds ++ gs) = true) (hL : laidMetH Tryd.prog Rows.rulesKeepUptoRow.laid W) :
    Calls Tryd.prog 5 args W fun e W' => ∃ v, e = .returned v ∧ Rows.rulesKeepSpec.post enc Tryd.prog Tryd.f5 false true false false W args v W' := by
  have hW' := hW
  obtain ⟨p, q, hA0, hV, rfl, hfz, hnd⟩ := hW
  have hA : DataW.TrodAll enc Tryd.prog W 0 (fun _ => true) true Tryd.f5.params.toList args.toList ds p := hA0
  rw [Tryd.params5] at hA hval
  obtain ⟨v0, vs0, d0, ds0, p0, q0, hargs, rfl, rfl, h0, r0⟩ := trodAll_cons hA
  obtain ⟨v1, vs1, d1, ds1, p1, q1, rfl, rfl, rfl, h1, r1⟩ := trodAll_cons r0
  obtain ⟨v2, vs2, d2, ds2, p2, q2, rfl, rfl, rfl, h2, r2⟩ := trodAll_cons r1
  obtain ⟨rfl, rfl, rfl⟩ := trodAll_nil r2
  obtain rfl : args = #[v0, v1, v2] := by cases args; simp_all
  obtain ⟨rfl, rfl⟩ := trodVars_none hV
  obtain ⟨L, rfl, hwf⟩ := open_land (hval 0 34 v0 rfl rfl) h0
  obtain ⟨b, rfl, rfl, rfl, wb⟩ := open_int Tryd.underlying3 (hval 1 3 v1 rfl rfl) h1
  obtain ⟨O, rfl, hOn, hO1, hO2, hO3⟩ := open_order (hval 2 47 v2 rfl rfl) h2
  clear hA0
  simp only [List.append_nil] at hW' hk
  have hk1 : Rows.uptoBulkAll [d0, .lit (.int .i64 b), d2] ≤ 1048576 := of_decide_eq_true hk
  simp only [Rows.uptoBulkAll, Rows.uptoBulk] at hk1
  have hnm := land_names h0 (by omega)
  have hvb := of_laidR hL
  refine (keepW L b O W hvb hwf hnm.1 hnm.2.1 hnm.2.2 ⟨by omega, by omega, hOn.1, hOn.2⟩).mono fun e W' ⟨he, hb⟩ => ?_
  subst he
  refine ⟨_, rfl, post_true hW' (by kernel_rfl) rfl (pa := p0 ++ ([] ++ (p2 ++ []))) ?_ rfl hb⟩
  rw [Tryd.params5]
  exact trodAll_cons_mk (hb.trod Tryd.laidOut Tryd.recLand (of_decide_eq_true (by kernel_rfl)) h0 (trod_lt' h0)) (trodAll_cons_mk (hb.trod Tryd.laidOut Tryd.rec3 (of_decide_eq_true (by kernel_rfl)) h1 (by simp)) (trodAll_cons_mk (hb.trod Tryd.laidOut Tryd.recOrder (of_decide_eq_true (by kernel_rfl)) h2 (trod_lt' h2)) trodAll_mk0))

theorem reads (os : Os) {H : Type} (enc : TypeId × Value → H) : ∃ places, DataW.whole enc Tryd.prog ((World.laidAll Tryd.prog os Rows.rulesKeepUptoRow.laid).forCall (fun _ _ => 0) ⟨#[], #[.agg zl.cells, .int .i64 0, .agg zOrd.cells], []⟩).memory Tryd.f5.params.toList Rows.rulesKeepSpec.vars false (#[.agg zl.cells, .int .i64 0, .agg zOrd.cells] : Array Value).toList 8 = some ([rLandD, .lit (.int .i64 0), rOrderD], [], places) :=
  ⟨[], by kernel_rfl⟩

theorem fits (os : Os) : laidMet Tryd.prog Rows.rulesKeepUptoRow.laid ((World.laidAll Tryd.prog os Rows.rulesKeepUptoRow.laid).forCall (fun _ _ => 0) ⟨#[], #[.agg zl.cells, .int .i64 0, .agg zOrd.cells], []⟩).memory :=
  laidMet_laidAll _ (by kernel_rfl) (by kernel_rfl)

set_option maxRecDepth 100000 in
theorem lifted (os : Os) (started : os.Started) (H : Type) (enc : TypeId × Value → H) (F : Stop.Interp) :
    ReturnsInHanded {} Tryd.checked os 5 .any ((Rows.OpenSpec.upto Rows.rulesKeepSpec).preRow enc Tryd.prog Tryd.f5 Rows.rulesKeepUptoRow.domain false Rows.rulesKeepUptoRow.laid) (((Rows.OpenSpec.upto Rows.rulesKeepSpec).at F).post enc Tryd.prog Tryd.f5 false true false false) := by
  obtain ⟨places, hx⟩ := reads os enc
  refine returnsInHanded_of_row (C := Tryd.checked) (s := Rows.OpenSpec.upto Rows.rulesKeepSpec) Tryd.own started (by kernel_rfl) Tryd.func5
    ⟨World.laidAll Tryd.prog os Rows.rulesKeepUptoRow.laid, fun _ _ => 0, ⟨#[], #[.agg zl.cells, .int .i64 0, .agg zOrd.cells], []⟩, World.laidAll_os _ _ _, World.shaped_of_ZipB (by kernel_rfl) (by kernel_rfl), rfl, (Input.okWide_of_okWideB (by kernel_rfl)).2,
      OpenSpec.preRow_of_cond 8 hx (by kernel_rfl) (fun k hk => by cases hk; kernel_rfl) (by kernel_rfl) (fits os), by simp [Assume.holds]⟩ ?_
  intro W base args ds gs before hval hW _ hcond _ hL _ _
  exact contract H enc W base args ds gs before hval hW (hcond _ rfl) hL

theorem said : Rows.RulesKeepUptoSaid :=
  OpenClaim.holds_of_cond 5 Tryd.f5 rfl rfl rfl rfl rfl rfl rfl ⟨rfl, rfl, rfl, rfl, rfl⟩ rfl rfl rfl rfl rfl (by kernel_rfl) Tryd.func5 (by kernel_rfl)
    (of_decide_eq_true (by kernel_rfl)) (by unfold Func.isWrapper; first | (rw [if_pos (by decide +kernel)]; kernel_rfl) | (rw [if_neg (by decide +kernel)]; exact ⟨rfl, rfl⟩))
    (fun os started H enc _ F => by rw [OpenClaim.pre_eq_preRow]; exact lifted os started H enc F)

theorem plain (f : FuncId) (fn : Func) (hf : Tryd.pinned.checked.prog.funcNamed Rows.rulesKeepUptoRow.func = some f) (hfn : Tryd.pinned.checked.prog.funcs[f]? = some fn) :
    false = Tryd.pinned.checked.prog.looks [] ∧ ∀ (j : Nat) t, fn.params[j]? = some t → Tryd.pinned.checked.prog.wantsStandIn t = false := by
  obtain rfl : f = 5 := Option.some.inj ((show Tryd.prog.funcNamed Rows.rulesKeepUptoRow.func = some 5 by kernel_rfl).symm.trans hf) |>.symm
  obtain rfl : fn = Tryd.f5 := (Option.some.inj (Tryd.func5.symm.trans hfn)).symm
  refine ⟨by kernel_rfl, fun j t ht => ?_⟩
  rw [Tryd.params5] at ht
  have hm : t ∈ [34, 3, 47] := by simpa using Array.mem_of_getElem? ht
  have hall : ([34, 3, 47].all fun u => !Tryd.prog.wantsStandIn u) = true := by kernel_rfl
  exact (show Tryd.prog.wantsStandIn t = false by simpa using List.all_eq_true.1 hall t hm)

theorem proved : Rows.RulesKeepUptoCardSaid :=
  Claim7.holds_tied_plain_at .later [] _ _ _ _ said (fun _ h => by cases h) (by kernel_rfl) (fun _ h => by cases h) rulesKeepUpto_row_tie rfl ⟨rfl, rfl⟩ (by kernel_rfl) rfl plain (by kernel_rfl)
#print axioms proved
end Go.Proofs.YtaifjndkgfffpaaDoor.rulesKeep
