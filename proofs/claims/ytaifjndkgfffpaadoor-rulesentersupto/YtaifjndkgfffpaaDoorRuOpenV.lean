/-
  The tables of verbs as they were laid: the program's, and the document's.
-/
import Derived.Test.YtaifjndkgfffpaaDoorRuOpen
import Derived.Test.YtaifjndkgfffpaaDoorWdVr
namespace Go.Proofs.YtaifjndkgfffpaaDoor
open Go.ChangeShapes Go.WideShapes Go.ChangeAt Go.RowKit
open Go.ChangeMaps (open_string shut_string)
set_option linter.unusedVariables false

def rvname1 : String := (Rows.rulesFightsUptoRow.laid.map (·.1)).getD 1 default
def rvname0 : String := (Rows.rulesFightsUptoRow.laid.map (·.1)).getD 0 default
theorem rgVerbs1 : Tryd.prog.globalNamed rvname1 = some 1 := by kernel_rfl
theorem rtVerbs1 : (Tryd.prog.globals[(1 : Nat)]?).map (·.type) = some 89 := by kernel_rfl
theorem rgVerbs0 : Tryd.prog.globalNamed rvname0 = some 0 := by kernel_rfl
theorem rtVerbs0 : (Tryd.prog.globals[(0 : Nat)]?).map (·.type) = some 89 := by kernel_rfl
theorem of_laidV {W : World} (h : laidMetH Tryd.prog Rows.rulesFightsUptoRow.laid W) : Vb W ∧ Vr W := by
  rw [MakeChecks.laidMetH_plain _ _ _ (by kernel_rfl)] at h
  obtain ⟨ps, ⟨g0, t0, cs0, f0, p0, q0, hg0, ht0, hv0, hd0, ⟨g1, t1, cs1, f1, p1, q1, hg1, ht1, hv1, hd1, _, _⟩, _⟩, _, _⟩ := h
  constructor
  · obtain rfl := Option.some.inj (rgVerbs1.symm.trans hg1)
    obtain rfl := Option.some.inj (rtVerbs1.symm.trans ht1)
    obtain ⟨t, fr, hb⟩ := block_of_var hg1 hv1
    have e := cells_of_texts (l := verbs) Tryd.underlying89 rfl Tryd.cellsVerbs hd1
    have e2 : cs1 = vcells := by
      obtain ⟨l⟩ := cs1
      have e' : l = verbs.map fun s => Value.string (bs s) := e
      rw [e']; rfl
    rw [e2] at hb
    exact ⟨t, fr, hb⟩
  · obtain rfl := Option.some.inj (rgVerbs0.symm.trans hg0)
    obtain rfl := Option.some.inj (rtVerbs0.symm.trans ht0)
    obtain ⟨t, fr, hb⟩ := block_of_var hg0 hv0
    have e := cells_of_texts (l := verbs) Tryd.underlying89 rfl Tryd.cellsVerbs hd0
    have e2 : cs0 = vcells := by
      obtain ⟨l⟩ := cs0
      have e' : l = verbs.map fun s => Value.string (bs s) := e
      rw [e']; rfl
    rw [e2] at hb
    exact ⟨t, fr, hb⟩
end Go.Proofs.YtaifjndkgfffpaaDoor
