/-
  The verbs in their memory.
-/
import Derived.Test.YtdembcpljjgbkadDoorBs
import Derived.Test.YtdembcpljjgbkadDoorWdP
namespace Go.Proofs.YtdembcpljjgbkadDoor
open Go.RowKit
set_option linter.unusedVariables false

/-- The verbs' cells. -/
def vcells : Array Value := (verbs.map (fun v => Value.string (bs v))).toArray
theorem vcells_get (i : Nat) (h : i < 21) : vcells[i]? = some (.string (bs (verbs.getD i []))) := by
  have hl : verbs.length = 21 := rfl
  simp [vcells, List.getD, List.getElem?_eq_getElem (show i < verbs.length by omega)]
theorem vcells_size : vcells.size = 21 := rfl

/-- The verbs lie where they were laid. -/
def Vb (w : World) : Prop := ∃ t fr, w.heap[(0 : Nat)]? = some (.cells vcells t fr)
theorem Vb.lt {w : World} (h : Vb w) : 0 < w.heap.size := by
  obtain ⟨t, fr, h⟩ := h; exact (Array.getElem?_eq_some_iff.1 h).1
theorem Vb.below {w w' : World} {B : Nat} (h : Vb w) (hb : Below B w w') (hB : w.heap.size ≤ B) : Vb w' := by
  have hlt := h.lt
  obtain ⟨t, fr, h⟩ := h
  exact ⟨t, fr, by rw [hb.block _ (by omega)]; exact h⟩
theorem Vb.alloc {w : World} (h : Vb w) (o : Obj) : Vb (w.alloc o) := h.below ((Below.refl w.heap.size w).alloc (Nat.le_refl _) o) (Nat.le_refl _)
theorem Vb.drewN {w : World} (h : Vb w) (n : Nat) : Vb (w.drewN n) := h.below (below_drewN (Below.refl w.heap.size w) n) (Nat.le_refl _)
theorem Vb.cell {w : World} (h : Vb w) (i : Nat) (hi : i < 21) : w.cell? ⟨0, i, none⟩ = some (.string (bs (verbs.getD i []))) := by
  obtain ⟨t, fr, h⟩ := h
  simp only [World.cell?, h]
  exact vcells_get i hi
end Go.Proofs.YtdembcpljjgbkadDoor
