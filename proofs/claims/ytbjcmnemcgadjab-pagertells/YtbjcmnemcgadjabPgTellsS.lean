/-
  Four pages in memory, as the law PagerTells holds them.
-/
import Derived.Test.YtbjcmnemcgadjabPgRef3
import Derived.Deep.RegionHeld3
namespace Go.Proofs.Ytbjcmnemcgadjab
open Go.RowKit
set_option linter.unusedVariables false

/-- Four blocks and their lists: the page, its copy, what the program answers, what the document answers. -/
structure St (T : Prop) (w : World) (b0 b1 b2 b3 : Nat) (P A B : Pg) (v v1 va vb : Value) (w' : World) : Prop where
  k0 : Cod w' b0 P v
  k1 : Cod w' b1 P v1
  k2 : Cod w' b2 A va
  k3 : Cod w' b3 B vb
  r0 : Reads w' v P.wait
  r1 : Reads w' v1 P.wait
  r2 : Reads w' va A.wait
  r3 : T → Reads w' vb B.wait
  lo : Below w.heap.size w w'

section
variable {T : Prop} {w w1 w2 : World} {b0 b1 b2 b3 : Nat} {P A B A' B' : Pg} {v v1 va vb va' vb' : Value}

theorem St.behind {C : Nat} (h : St T w b0 b1 b2 b3 P A B v v1 va vb w1) (hb : Below C w1 w2) (hB : w1.heap.size ≤ C) : St T w b0 b1 b2 b3 P A B v v1 va vb w2 :=
  ⟨cod_behind h.k0 hb hB, cod_behind h.k1 hb hB, cod_behind h.k2 hb hB, cod_behind h.k3 hb hB, h.r0.below hb hB, h.r1.below hb hB, h.r2.below hb hB, fun t => (h.r3 t).below hb hB, h.lo.trans (hb.mono (by have := h.lo.size; omega))⟩

theorem St.drew (h : St T w b0 b1 b2 b3 P A B v v1 va vb w1) : St T w b0 b1 b2 b3 P A B v v1 va vb w1.drew := h.behind (Below.refl w1.heap.size w1).drew (Nat.le_refl _)

theorem St.s (h : St T w b0 b1 b2 b3 P A B v v1 va vb w1) :
    (w1.cell? ⟨b0, 0, none⟩ = some v ∧ w1.cell? ⟨b0, 1, none⟩ = some (.int .i64 P.shown) ∧ w1.cell? ⟨b0, 2, none⟩ = some (.bool P.asking) ∧ w1.cell? ⟨b0, 3, none⟩ = some (.string P.ring) ∧ w1.cell? ⟨b0, 4, none⟩ = some (.bool P.cut) ∧
     w1.cell? ⟨b1, 0, none⟩ = some v1 ∧ w1.cell? ⟨b1, 1, none⟩ = some (.int .i64 P.shown) ∧ w1.cell? ⟨b1, 2, none⟩ = some (.bool P.asking) ∧ w1.cell? ⟨b1, 3, none⟩ = some (.string P.ring) ∧ w1.cell? ⟨b1, 4, none⟩ = some (.bool P.cut) ∧
     w1.cell? ⟨b2, 0, none⟩ = some va ∧ w1.cell? ⟨b2, 1, none⟩ = some (.int .i64 A.shown) ∧ w1.cell? ⟨b2, 2, none⟩ = some (.bool A.asking) ∧ w1.cell? ⟨b2, 3, none⟩ = some (.string A.ring) ∧ w1.cell? ⟨b2, 4, none⟩ = some (.bool A.cut) ∧
     w1.cell? ⟨b3, 0, none⟩ = some vb ∧ w1.cell? ⟨b3, 1, none⟩ = some (.int .i64 B.shown) ∧ w1.cell? ⟨b3, 2, none⟩ = some (.bool B.asking) ∧ w1.cell? ⟨b3, 3, none⟩ = some (.string B.ring) ∧ w1.cell? ⟨b3, 4, none⟩ = some (.bool B.cut)) ∧
    St T w b0 b1 b2 b3 P A B v v1 va vb w1 :=
  ⟨⟨h.k0.cell 0, h.k0.cell 1, h.k0.cell 2, h.k0.cell 3, h.k0.cell 4, h.k1.cell 0, h.k1.cell 1, h.k1.cell 2, h.k1.cell 3, h.k1.cell 4, h.k2.cell 0, h.k2.cell 1, h.k2.cell 2, h.k2.cell 3, h.k2.cell 4, h.k3.cell 0, h.k3.cell 1, h.k3.cell 2, h.k3.cell 3, h.k3.cell 4⟩, h⟩

/-- A page is laid into the third block. -/
theorem St.third (h : St T w b0 b1 b2 b3 P A B v v1 va vb w1) (hr : Reads w1 va' A'.wait) (ho0 : Off v P.wait b2) (ho1 : Off v1 P.wait b2) (ho2 : Off va' A'.wait b2) (h02 : b0 ≠ b2) (h12 : b1 ≠ b2) (h32 : b3 ≠ b2) (hlo : w.heap.size ≤ b2) :
    St False w b0 b1 b2 b3 P A' B v v1 va' vb (((((w1.setCell ⟨b2, 0, none⟩ va').setCell ⟨b2, 1, none⟩ (.int .i64 A'.shown)).setCell ⟨b2, 2, none⟩ (.bool A'.asking)).setCell ⟨b2, 3, none⟩ (.string A'.ring)).setCell ⟨b2, 4, none⟩ (.bool A'.cut)) :=
  ⟨cod_five_ne h.k0 h02, cod_five_ne h.k1 h12, cod_five h.k2, cod_five_ne h.k3 h32, reads_five h.r0 ho0, reads_five h.r1 ho1, reads_five hr ho2, fun e => e.elim, below_five h.lo hlo⟩

/-- A page is laid into the fourth block. -/
theorem St.fourth (h : St T w b0 b1 b2 b3 P A B v v1 va vb w1) (hr : Reads w1 vb' B'.wait) (ho0 : Off v P.wait b3) (ho1 : Off v1 P.wait b3) (ho2 : Off va A.wait b3) (ho3 : Off vb' B'.wait b3) (h03 : b0 ≠ b3) (h13 : b1 ≠ b3) (h23 : b2 ≠ b3) (hlo : w.heap.size ≤ b3) :
    St True w b0 b1 b2 b3 P A B' v v1 va vb' (((((w1.setCell ⟨b3, 0, none⟩ vb').setCell ⟨b3, 1, none⟩ (.int .i64 B'.shown)).setCell ⟨b3, 2, none⟩ (.bool B'.asking)).setCell ⟨b3, 3, none⟩ (.string B'.ring)).setCell ⟨b3, 4, none⟩ (.bool B'.cut)) :=
  ⟨cod_five_ne h.k0 h03, cod_five_ne h.k1 h13, cod_five_ne h.k2 h23, cod_five h.k3, reads_five h.r0 ho0, reads_five h.r1 ho1, reads_five h.r2 ho2, fun _ => reads_five hr ho3, below_five h.lo hlo⟩
end

/-- Four blocks as the last comparison holds them: the copy, the program's page, the document's, the turned one. -/
structure Sf (w : World) (b1 b2 b3 b4 : Nat) (P A U : Pg) (v v1 va vb : Value) (w' : World) : Prop where
  k1 : Cod w' b1 P v1
  k2 : Cod w' b2 A va
  k3 : Cod w' b3 A vb
  k4 : Cod w' b4 U v
  r0 : Reads w' v U.wait
  r1 : Reads w' v1 P.wait
  r2 : Reads w' va A.wait
  r3 : Reads w' vb A.wait
  lo : Below w.heap.size w w'

section
variable {w w1 w2 : World} {b1 b2 b3 b4 : Nat} {P A U : Pg} {v v1 va vb : Value}

theorem Sf.behind {C : Nat} (h : Sf w b1 b2 b3 b4 P A U v v1 va vb w1) (hb : Below C w1 w2) (hB : w1.heap.size ≤ C) : Sf w b1 b2 b3 b4 P A U v v1 va vb w2 :=
  ⟨cod_behind h.k1 hb hB, cod_behind h.k2 hb hB, cod_behind h.k3 hb hB, cod_behind h.k4 hb hB, h.r0.below hb hB, h.r1.below hb hB, h.r2.below hb hB, h.r3.below hb hB, h.lo.trans (hb.mono (by have := h.lo.size; omega))⟩

theorem Sf.drew (h : Sf w b1 b2 b3 b4 P A U v v1 va vb w1) : Sf w b1 b2 b3 b4 P A U v v1 va vb w1.drew := h.behind (Below.refl w1.heap.size w1).drew (Nat.le_refl _)

theorem Sf.s (h : Sf w b1 b2 b3 b4 P A U v v1 va vb w1) :
    (w1.cell? ⟨b1, 0, none⟩ = some v1 ∧ w1.cell? ⟨b1, 1, none⟩ = some (.int .i64 P.shown) ∧ w1.cell? ⟨b1, 2, none⟩ = some (.bool P.asking) ∧ w1.cell? ⟨b1, 3, none⟩ = some (.string P.ring) ∧ w1.cell? ⟨b1, 4, none⟩ = some (.bool P.cut) ∧
     w1.cell? ⟨b2, 0, none⟩ = some va ∧ w1.cell? ⟨b2, 1, none⟩ = some (.int .i64 A.shown) ∧ w1.cell? ⟨b2, 2, none⟩ = some (.bool A.asking) ∧ w1.cell? ⟨b2, 3, none⟩ = some (.string A.ring) ∧ w1.cell? ⟨b2, 4, none⟩ = some (.bool A.cut) ∧
     w1.cell? ⟨b3, 0, none⟩ = some vb ∧ w1.cell? ⟨b3, 1, none⟩ = some (.int .i64 A.shown) ∧ w1.cell? ⟨b3, 2, none⟩ = some (.bool A.asking) ∧ w1.cell? ⟨b3, 3, none⟩ = some (.string A.ring) ∧ w1.cell? ⟨b3, 4, none⟩ = some (.bool A.cut) ∧
     w1.cell? ⟨b4, 0, none⟩ = some v ∧ w1.cell? ⟨b4, 1, none⟩ = some (.int .i64 U.shown) ∧ w1.cell? ⟨b4, 2, none⟩ = some (.bool U.asking) ∧ w1.cell? ⟨b4, 3, none⟩ = some (.string U.ring) ∧ w1.cell? ⟨b4, 4, none⟩ = some (.bool U.cut)) ∧
    Sf w b1 b2 b3 b4 P A U v v1 va vb w1 :=
  ⟨⟨h.k1.cell 0, h.k1.cell 1, h.k1.cell 2, h.k1.cell 3, h.k1.cell 4, h.k2.cell 0, h.k2.cell 1, h.k2.cell 2, h.k2.cell 3, h.k2.cell 4, h.k3.cell 0, h.k3.cell 1, h.k3.cell 2, h.k3.cell 3, h.k3.cell 4, h.k4.cell 0, h.k4.cell 1, h.k4.cell 2, h.k4.cell 3, h.k4.cell 4⟩, h⟩
end
end Go.Proofs.Ytbjcmnemcgadjab
