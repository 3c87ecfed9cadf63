/-
  The tables as they were laid, where the document's own verbs are among them.
-/
import Derived.Test.YtdembcpljjgbkadDoorSnOpenU
import Derived.Test.YtdembcpljjgbkadDoorSnLib2
namespace Go.Proofs.YtdembcpljjgbkadDoor
open Go.ChangeShapes Go.WideShapes Go.ChangeAt Go.RowKit
open Go.ChangeMaps (open_string shut_string)
set_option linter.unusedVariables false

def vname2 : String := (Rows.senseTellsRow.laid.map (·.1)).getD 4 default
def rname2 : String := (Rows.senseTellsRow.laid.map (·.1)).getD 3 default
theorem gVerbsW2 : Tryd.prog.globalNamed vname2 = some 0 := by kernel_rfl
theorem gVerbsR2 : Tryd.prog.globalNamed rname2 = some 1 := by kernel_rfl
theorem tVerbsR2 : (Tryd.prog.globals[(1 : Nat)]?).map (·.type) = some 58 := by kernel_rfl

theorem of_laid2 {W : World} (h : laidMetH Tryd.prog Rows.senseTellsRow.laid W) : Vb W ∧ Vr W ∧ Ai W ∧ It W := by
  rw [MakeChecks.laidMetH_plain _ _ _ (by kernel_rfl)] at h
  obtain ⟨ps, ⟨g0, t0, cs0, f0, p0, q0, hg0, ht0, hv0, hd0, ⟨g1, t1, cs1, f1, p1, q1, hg1, ht1, hv1, hd1, ⟨g2, t2, cs2, f2, p2, q2, hg2, ht2, hv2, hd2, ⟨g3, t3, cs3, f3, p3, q3, hg3, ht3, hv3, hd3, ⟨g4, t4, cs4, f4, p4, q4, hg4, ht4, hv4, hd4, _, _⟩, _⟩, _⟩, _⟩, _⟩, _, _⟩ := h
  have htab : Lib.TabIs Tryd.prog W pname .u64 Lib.pow10Tab := by
    obtain rfl := Option.some.inj (gPow.symm.trans hg2)
    obtain rfl := Option.some.inj (tPow.symm.trans ht2)
    have e := Lib.cells_of_tab (k := .u64) (zs := Lib.pow10Tab) Tryd.underlying118 Tryd.underlying106 Tryd.cellsU64 Tryd.cellsPow hd2
    unfold Lib.TabIs
    refine hv2.trans (congrArg some ?_)
    obtain ⟨l⟩ := cs2
    have e' : l = Lib.pow10Tab.map fun z => Value.int .u64 z := e
    rw [e']
  refine ⟨?_, ?_, ai_of_tab htab, it_of_tab htab⟩
  · obtain rfl := Option.some.inj (gVerbsW2.symm.trans hg4)
    obtain rfl := Option.some.inj (tVerbs.symm.trans ht4)
    obtain ⟨t, fr, hb⟩ := block_of_var hg4 hv4
    have e := cells_of_texts (l := verbs) Tryd.underlying58 rfl Tryd.cellsVerbs hd4
    have e2 : cs4 = vcells := by
      obtain ⟨l⟩ := cs4
      have e' : l = verbs.map fun s => Value.string (bs s) := e
      rw [e']; rfl
    rw [e2] at hb
    exact ⟨t, fr, hb⟩
  · obtain rfl := Option.some.inj (gVerbsR2.symm.trans hg3)
    obtain rfl := Option.some.inj (tVerbsR2.symm.trans ht3)
    obtain ⟨t, fr, hb⟩ := block_of_var hg3 hv3
    have e := cells_of_texts (l := verbs) Tryd.underlying58 rfl Tryd.cellsVerbs hd3
    have e2 : cs3 = vcells := by
      obtain ⟨l⟩ := cs3
      have e' : l = verbs.map fun s => Value.string (bs s) := e
      rw [e']; rfl
    rw [e2] at hb
    exact ⟨t, fr, hb⟩
end Go.Proofs.YtdembcpljjgbkadDoor
