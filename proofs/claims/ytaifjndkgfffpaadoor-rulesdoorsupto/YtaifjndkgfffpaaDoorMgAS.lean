/-
  The verbs in their memory.
-/
import Derived.Test.YtaifjndkgfffpaaDoorBs
import Derived.Test.YtaifjndkgfffpaaDoorWdP
namespace Go.Proofs.YtaifjndkgfffpaaDoor
open Go.RowKit
set_option linter.unusedVariables false

/-- The verbs' cells. -/
def vcells : Array Value := (verbs.map (fun v => Value.string (bs v))).toArray
theorem vcells_get (i : Nat) (h : i < 21) : vcells[i]? = some (.string (bs (verbs.getD i []))) := by
  have hl : verbs.length = 21 := rfl
  simp [vcells, List.getD, List.getElem?_eq_getElem (show i < verbs.length by omega)]
theorem vcells_size : vcells.size = 21 := rfl

/-- The verbs lie where they were laid. -/
def Vb (w : World) : Prop := ∃ t fr, w.heap[(1 : Nat)]? = some (.cells vcells t fr)
theorem Vb.lt {w : World} (h : Vb w) : 1 < w.heap.size := by
  obtain ⟨t, fr, h⟩ := h; exact (Array.getElem?_eq_some_iff.1 h).1
theorem Vb.below {w w' : World} {B : Nat} (h : Vb w) (hb : Below B w w') (hB : w.heap.size ≤ B) : Vb w' := by
  have hlt := h.lt
  obtain ⟨t, fr, h⟩ := h
  exact ⟨t, fr, by rw [hb.block _ (by omega)]; exact h⟩
theorem Vb.alloc {w : World} (h : Vb w) (o : Obj) : Vb (w.alloc o) := h.below ((Below.refl w.heap.size w).alloc (Nat.le_refl _) o) (Nat.le_refl _)
theorem Vb.drewN {w : World} (h : Vb w) (n : Nat) : Vb (w.drewN n) := h.below (below_drewN (Below.refl w.heap.size w) n) (Nat.le_refl _)
theorem Vb.cell {w : World} (h : Vb w) (i : Nat) (hi : i < 21) : w.cell? ⟨1, i, none⟩ = some (.string (bs (verbs.getD i []))) := by
  obtain ⟨t, fr, h⟩ := h
  simp only [World.cell?, h]
  exact vcells_get i hi
end Go.Proofs.YtaifjndkgfffpaaDoor
/-
  The contract of Called.
-/
namespace Go.Proofs.YtaifjndkgfffpaaDoor
open Go.RowKit
set_option linter.unusedVariables false

def calledI (d : Int) : List UInt8 := if 0 ≤ d then calledL d.toNat else []
theorem calledI_nat (k : Nat) : calledI k = calledL k := by simp [calledI]

set_option maxHeartbeats 1000000 in
theorem called_any (d : Int) (w : World) (hv : Vb w) : Calls Tryd.prog 73 #[.int .i64 d] w fun e w' => e = .returned (.string (bs (calledI d))) ∧ w' = w := by
  by_cases h0 : 0 ≤ d
  · obtain ⟨k, rfl⟩ : ∃ k : Nat, d = k := ⟨d.toNat, by omega⟩
    by_cases h6 : k < 6
    · have hc := hv.cell k (by omega)
      have HV := hide (show calledI (k : Int) = verbs.getD k [] by simp [calledI, calledL, h6])
      clear hv
      go_enter Tryd.func73, Tryd.ntmps73
      go_wp2
      go_ret
      exact ⟨ret_str (by rw [HV.out]; simp), rfl⟩
    · have HV := hide (show calledI (k : Int) = [] by simp [calledI, calledL, h6])
      clear hv
      go_enter Tryd.func73, Tryd.ntmps73
      go_wp2
      go_ret
      exact ⟨ret_str (by rw [HV.out]; rfl), rfl⟩
  · have HV := hide (show calledI d = [] by simp [calledI, h0])
    clear hv
    go_enter Tryd.func73, Tryd.ntmps73
    go_wp2
    go_ret
    exact ⟨ret_str (by rw [HV.out]; rfl), rfl⟩
end Go.Proofs.YtaifjndkgfffpaaDoor
