/-
  Proved: for every land, number and order whose reading is of bulk at most 1048576, the law inglenooklaw.RulesDoes of the landed program returns true and leaves its arguments as they were: Do answers exactly what the document says, errors too. Condition: the bulk of what is read is at most 1048576, and that the verbs are laid as the program's text lays them (the card ties that).
-/
import Derived.Test.YtaifjndkgfffpaaGreatDoorMgY
import Derived.Test.YtaifjndkgfffpaaGreatDoorMgZ
namespace Go.Proofs.YtaifjndkgfffpaaGreatDoor.rulesDoes
open Go.ChangeShapes Go.WideShapes Go.ChangeAt Go.RowKit
open Go.ChangeMaps (open_string shut_string)
set_option linter.unusedVariables false

set_option maxRecDepth 100000 in
theorem contract (H : Type) (enc : TypeId × Value → H) (W : World) (base : Nat) (args : Array Value) (ds gs : List (DataW H)) (before : List MemPlace)
    (hval : ∀ (j : Nat) t v, Tryz.f3.params[j]? = some t → args[j]? = some v → Value.okWide Tryz.prog W .any base t v)
    (hW : DataW.Whole enc Tryz.prog Tryz.f3.params.toList Rows.rulesDoesSpec.vars false W args.toList ds gs before)
    (hk : Rows.uptoSmall H (ds ++ gs) = true) (hL : laidMetH Tryz.prog Rows.rulesDoesUptoRow.laid W) :
    Calls Tryz.prog 3 args W fun e W' => ∃ v, e = .returned v ∧ Rows.rulesDoesSpec.post enc Tryz.prog Tryz.f3 false true false false W args v W' := by
  have hW' := hW
  obtain ⟨p, q, hA0, hV, rfl, hfz, hnd⟩ := hW
  have hA : DataW.TrodAll enc Tryz.prog W 0 (fun _ => true) true Tryz.f3.params.toList args.toList ds p := hA0
  rw [Tryz.params3] at hA hval
  obtain ⟨v0, vs0, d0, ds0, p0, q0, hargs, rfl, rfl, h0, r0⟩ := trodAll_cons hA
  obtain ⟨v1, vs1, d1, ds1, p1, q1, rfl, rfl, rfl, h1, r1⟩ := trodAll_cons r0
  obtain ⟨v2, vs2, d2, ds2, p2, q2, rfl, rfl, rfl, h2, r2⟩ := trodAll_cons r1
  obtain ⟨rfl, rfl, rfl⟩ := trodAll_nil r2
  obtain rfl : args = #[v0, v1, v2] := by cases args; simp_all
  obtain ⟨rfl, rfl⟩ := trodVars_none hV
  obtain ⟨L, rfl, hwf⟩ := open_land (hval 0 34 v0 rfl rfl) h0
  obtain ⟨b, rfl, rfl, rfl, wb⟩ := open_int Tryz.underlying3 (hval 1 3 v1 rfl rfl) h1
  obtain ⟨O, rfl, hOn, hO1, hO2, hO3⟩ := open_order (hval 2 36 v2 rfl rfl) h2
  clear hA0
  simp only [List.append_nil] at hW' hk
  have hk1 : Rows.uptoBulkAll [d0, .lit (.int .i64 b), d2] ≤ 1048576 := of_decide_eq_true hk
  simp only [Rows.uptoBulkAll, Rows.uptoBulk] at hk1
  have hnm := land_names h0 (by omega)
  obtain ⟨hvb, hvr⟩ := of_laidD hL
  refine (doesW L b O W hvb hvr hwf hnm.1 hnm.2.1 hnm.2.2 (by omega) (by omega) hOn.1 hOn.2).mono fun e W' ⟨he, hb⟩ => ?_
  subst he
  refine ⟨_, rfl, post_true hW' (by kernel_rfl) rfl (pa := p0 ++ ([] ++ (p2 ++ []))) ?_ rfl hb⟩
  rw [Tryz.params3]
  exact trodAll_cons_mk (hb.trod Tryz.laidOut Tryz.recLand (of_decide_eq_true (by kernel_rfl)) h0 (trod_lt' h0)) (trodAll_cons_mk (hb.trod Tryz.laidOut Tryz.rec3 (of_decide_eq_true (by kernel_rfl)) h1 (by simp)) (trodAll_cons_mk (hb.trod Tryz.laidOut Tryz.recOrder (of_decide_eq_true (by kernel_rfl)) h2 (trod_lt' h2)) trodAll_mk0))

theorem reads (os : Os) {H : Type} (enc : TypeId × Value → H) : ∃ places, DataW.whole enc Tryz.prog ((World.laidAll Tryz.prog os Rows.rulesDoesUptoRow.laid).forCall (fun _ _ => 0) ⟨#[], #[.agg zl.cells, .int .i64 0, .agg zOrd.cells], []⟩).memory Tryz.f3.params.toList Rows.rulesDoesSpec.vars false (#[.agg zl.cells, .int .i64 0, .agg zOrd.cells] : Array Value).toList 8 = some ([rLandD, .lit (.int .i64 0), rOrderD], [], places) :=
  ⟨[], by kernel_rfl⟩

theorem fits (os : Os) : laidMet Tryz.prog Rows.rulesDoesUptoRow.laid ((World.laidAll Tryz.prog os Rows.rulesDoesUptoRow.laid).forCall (fun _ _ => 0) ⟨#[], #[.agg zl.cells, .int .i64 0, .agg zOrd.cells], []⟩).memory :=
  laidMet_laidAll _ (by kernel_rfl) (by kernel_rfl)

set_option maxRecDepth 100000 in
theorem lifted (os : Os) (started : os.Started) (H : Type) (enc : TypeId × Value → H) (F : Stop.Interp) :
    ReturnsInHanded {} Tryz.checked os 3 .any ((Rows.OpenSpec.upto Rows.rulesDoesSpec).preRow enc Tryz.prog Tryz.f3 Rows.rulesDoesUptoRow.domain false Rows.rulesDoesUptoRow.laid) (((Rows.OpenSpec.upto Rows.rulesDoesSpec).at F).post enc Tryz.prog Tryz.f3 false true false false) := by
  obtain ⟨places, hx⟩ := reads os enc
  refine returnsInHanded_of_row (C := Tryz.checked) (s := Rows.OpenSpec.upto Rows.rulesDoesSpec) Tryz.own started (by kernel_rfl) Tryz.func3
    ⟨World.laidAll Tryz.prog os Rows.rulesDoesUptoRow.laid, fun _ _ => 0, ⟨#[], #[.agg zl.cells, .int .i64 0, .agg zOrd.cells], []⟩, World.laidAll_os _ _ _, World.shaped_of_ZipB (by kernel_rfl) (by kernel_rfl), rfl, (Input.okWide_of_okWideB (by kernel_rfl)).2,
      OpenSpec.preRow_of_cond 8 hx (by kernel_rfl) (fun k hk => by cases hk; kernel_rfl) (by kernel_rfl) (fits os), by simp [Assume.holds]⟩ ?_
  intro W base args ds gs before hval hW _ hcond _ hL _ _
  exact contract H enc W base args ds gs before hval hW (hcond _ rfl) hL

theorem said : Rows.RulesDoesUptoSaid :=
  OpenClaim.holds_of_cond 3 Tryz.f3 rfl rfl rfl rfl rfl rfl rfl ⟨rfl, rfl, rfl, rfl, rfl⟩ rfl rfl rfl rfl rfl (by kernel_rfl) Tryz.func3 (by kernel_rfl)
    (of_decide_eq_true (by kernel_rfl)) (by unfold Func.isWrapper; first | (rw [if_pos (by decide +kernel)]; kernel_rfl) | (rw [if_neg (by decide +kernel)]; exact ⟨rfl, rfl⟩))
    (fun os started H enc _ F => by rw [OpenClaim.pre_eq_preRow]; exact lifted os started H enc F)

theorem plain (f : FuncId) (fn : Func) (hf : Tryz.pinned.checked.prog.funcNamed Rows.rulesDoesUptoRow.func = some f) (hfn : Tryz.pinned.checked.prog.funcs[f]? = some fn) :
    false = Tryz.pinned.checked.prog.looks [] ∧ ∀ (j : Nat) t, fn.params[j]? = some t → Tryz.pinned.checked.prog.wantsStandIn t = false := by
  obtain rfl : f = 3 := Option.some.inj ((show Tryz.prog.funcNamed Rows.rulesDoesUptoRow.func = some 3 by kernel_rfl).symm.trans hf) |>.symm
  obtain rfl : fn = Tryz.f3 := (Option.some.inj (Tryz.func3.symm.trans hfn)).symm
  refine ⟨by kernel_rfl, fun j t ht => ?_⟩
  rw [Tryz.params3] at ht
  have hm : t ∈ [34, 3, 36] := by simpa using Array.mem_of_getElem? ht
  have hall : ([34, 3, 36].all fun u => !Tryz.prog.wantsStandIn u) = true := by kernel_rfl
  exact (show Tryz.prog.wantsStandIn t = false by simpa using List.all_eq_true.1 hall t hm)

theorem proved : Rows.RulesDoesUptoCardSaid :=
  Claim7.holds_tied_plain_at .later [] _ _ _ _ said (fun _ h => by cases h) (by kernel_rfl) (fun _ h => by cases h) rulesDoesUpto_row_tie rfl ⟨rfl, rfl⟩ (by kernel_rfl) rfl plain (by kernel_rfl)
#print axioms proved
end Go.Proofs.YtaifjndkgfffpaaGreatDoor.rulesDoes
