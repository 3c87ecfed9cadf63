/-
  The tables as they were laid where strconv is read too: the verbs, and the powers of ten.
-/
import Derived.Test.YtaifjndkgfffpaaDoorRuOpenO
import Derived.Test.YtaifjndkgfffpaaDoorSnLib
namespace Go.Proofs.YtaifjndkgfffpaaDoor
open Go.ChangeShapes Go.WideShapes Go.ChangeAt Go.RowKit
open Go.ChangeMaps (open_string shut_string)
set_option linter.unusedVariables false

def vnameF : String := (Rows.rulesFarUptoRow.laid.map (·.1)).getD 3 default
theorem gVerbsF : Tryd.prog.globalNamed vnameF = some 1 := by kernel_rfl
theorem tVerbsF : (Tryd.prog.globals[(1 : Nat)]?).map (·.type) = some 89 := by kernel_rfl
theorem gPow : Tryd.prog.globalNamed pname = some 2 := by kernel_rfl
theorem tPow : (Tryd.prog.globals[(2 : Nat)]?).map (·.type) = some 140 := by kernel_rfl
theorem Tryd.cellsPow : Tryd.prog.cellsOf 140 = 20 := by kernel_rfl
theorem Tryd.cellsU64 : Tryd.prog.cellsOf 128 = 1 := by kernel_rfl

theorem of_laidF {W : World} (h : laidMetH Tryd.prog Rows.rulesFarUptoRow.laid W) : Vb W ∧ Ai W := by
  rw [MakeChecks.laidMetH_plain _ _ _ (by kernel_rfl)] at h
  obtain ⟨ps, ⟨g0, t0, cs0, f0, p0, q0, hg0, ht0, hv0, hd0, ⟨g1, t1, cs1, f1, p1, q1, hg1, ht1, hv1, hd1, ⟨g2, t2, cs2, f2, p2, q2, hg2, ht2, hv2, hd2, ⟨g3, t3, cs3, f3, p3, q3, hg3, ht3, hv3, hd3, _, _⟩, _⟩, _⟩, _⟩, _, _⟩ := h
  constructor
  · obtain rfl := Option.some.inj (gVerbsF.symm.trans hg3)
    obtain rfl := Option.some.inj (tVerbsF.symm.trans ht3)
    obtain ⟨t, fr, hb⟩ := block_of_var hg3 hv3
    have e := cells_of_texts (l := verbs) Tryd.underlying89 rfl Tryd.cellsVerbs hd3
    have e2 : cs3 = vcells := by
      obtain ⟨l⟩ := cs3
      have e' : l = verbs.map fun s => Value.string (bs s) := e
      rw [e']; rfl
    rw [e2] at hb
    exact ⟨t, fr, hb⟩
  · obtain rfl := Option.some.inj (gPow.symm.trans hg2)
    obtain rfl := Option.some.inj (tPow.symm.trans ht2)
    have e := Lib.cells_of_tab (k := .u64) (zs := Lib.pow10Tab) Tryd.underlying140 Tryd.underlying128 Tryd.cellsU64 Tryd.cellsPow hd2
    refine ai_of_tab ?_
    unfold Lib.TabIs
    refine hv2.trans (congrArg some ?_)
    obtain ⟨l⟩ := cs2
    have e' : l = Lib.pow10Tab.map fun z => Value.int .u64 z := e
    rw [e']

end Go.Proofs.YtaifjndkgfffpaaDoor
