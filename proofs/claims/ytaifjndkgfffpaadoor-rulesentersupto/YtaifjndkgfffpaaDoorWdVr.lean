/-
  The document's verbs in their memory.
-/
import Derived.Test.YtaifjndkgfffpaaDoorMgB
namespace Go.Proofs.YtaifjndkgfffpaaDoor
open Go.RowKit
set_option linter.unusedVariables false

/-- The document's verbs lie where they were laid. -/
def Vr (w : World) : Prop := ∃ t fr, w.heap[(0 : Nat)]? = some (.cells vcells t fr)
theorem Vr.lt {w : World} (h : Vr w) : 0 < w.heap.size := by
  obtain ⟨t, fr, h⟩ := h; exact (Array.getElem?_eq_some_iff.1 h).1
theorem Vr.below {w w' : World} {B : Nat} (h : Vr w) (hb : Below B w w') (hB : w.heap.size ≤ B) : Vr w' := by
  have hlt := h.lt
  obtain ⟨t, fr, h⟩ := h
  exact ⟨t, fr, by rw [hb.block _ (by omega)]; exact h⟩
theorem Vr.cell {w : World} (h : Vr w) (i : Nat) (hi : i < 21) : w.cell? ⟨0, i, none⟩ = some (.string (bs (verbs.getD i []))) := by
  obtain ⟨t, fr, h⟩ := h
  simp only [World.cell?, h]
  exact vcells_get i hi

end Go.Proofs.YtaifjndkgfffpaaDoor
