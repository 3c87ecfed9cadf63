/-
  The document's own answer to whether a land is good: the contract. Written by a program.
-/
import Derived.Test.YtaifjndkgfffpaaDoorMgN
import Derived.Test.YtaifjndkgfffpaaDoorMgA
import Derived.Test.YtaifjndkgfffpaaDoorMgE
namespace Go.Proofs.YtaifjndkgfffpaaDoor
open Go.RowKit
set_option linter.unusedVariables false

def okR (L : Ld) (r d : Nat) : Bool := !(decide (L.exit r d < 0) || decide (6 < L.exit r d) || (L.shut r d && decide (L.exit r d = 0)))
def okB (L : Ld) (b : Nat) : Bool := !(decide (L.room b < 0) || decide (5 < L.room b) || decide (L.health b < 0) || decide (10 < L.health b) || decide (L.foe b < 0) || decide (6 < L.foe b) || (L.here b != (L.health b != 0)) || (!L.here b && (L.foe b != 0)))
def okK (L : Ld) (i : Nat) : Bool := !(decide (L.kind i < 0) || decide (3 < L.kind i) || ((L.kind i == 0) && L.on i) || ((L.kind i == 2) && L.on i && (L.wh i != 1)) || ((L.wh i == 2) && (decide (L.loc i < 0) || decide (8 < L.loc i) || (L.kind (L.loc i).toNat != 3))))
def okU (L : Ld) (i : Nat) : Bool := !(!(rootL L (i : Int)).2.2.2 || (((rootL L (i : Int)).1 == 0) && (decide ((rootL L (i : Int)).2.1 < 0) || decide (5 < (rootL L (i : Int)).2.1))) || (((rootL L (i : Int)).1 == 1) && (decide ((rootL L (i : Int)).2.1 < 0) || decide (5 < (rootL L (i : Int)).2.1) || !L.here (rootL L (i : Int)).2.1.toNat)))
def refG (L : Ld) : Bool := (List.range 6).all (fun r => (List.range 6).all (okR L r)) && (List.range 6).all (okB L) && (List.range 9).all (fun i => okK L i && okU L i)
theorem refG_R {L : Ld} {r d : Nat} (hr : r < 6) (hd : d < 6) (h : okR L r d = false) : refG L = false := by
  unfold refG
  rw [all_bad hr (all_bad hd h)]; rfl
theorem refG_B {L : Ld} {b : Nat} (hb : b < 6) (h : okB L b = false) : refG L = false := by
  unfold refG
  rw [all_bad hb h, Bool.and_false]; rfl
theorem refG_T {L : Ld} {i : Nat} (hi : i < 9) (h : okK L i = false ∨ okU L i = false) : refG L = false := by
  unfold refG
  rw [all_bad (f := fun i => okK L i && okU L i) hi (by rcases h with h | h <;> simp [h]), Bool.and_false]
theorem refG_all {L : Ld} (h1 : ∀ r, r < 6 → ∀ d, d < 6 → okR L r d = true) (h2 : ∀ b, b < 6 → okB L b = true) (h3 : ∀ i, i < 9 → okK L i = true ∧ okU L i = true) : refG L = true := by
  unfold refG
  rw [all_ok fun r hr => all_ok (h1 r hr), all_ok h2, all_ok (f := fun i => okK L i && okU L i) fun i hi => by rw [(h3 i hi).1, (h3 i hi).2]; rfl]; rfl
/-- The land lies where it was laid. -/
structure RgRel (L : Ld) (w wr : World) : Prop where
  cod : Cod wr w.heap.size L
  low : Below w.heap.size w wr
theorem RgRel.box {L : Ld} {w wr : World} (h : RgRel L w wr) (o : Obj) : RgRel L w (wr.alloc o) := ⟨h.cod.alloc o, h.low.alloc h.low.size o⟩
theorem RgRel.call {L : Ld} {w wr wr' : World} (h : RgRel L w wr) (hb : Below wr.heap.size wr wr') : RgRel L w wr' := ⟨h.cod.behind hb (Nat.le_refl _), h.low.trans (hb.mono h.low.size)⟩

end Go.Proofs.YtaifjndkgfffpaaDoor
