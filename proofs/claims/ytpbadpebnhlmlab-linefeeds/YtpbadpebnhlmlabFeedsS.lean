/-
  What holds while the law LineFeeds compares: four blocks, each with its lines; what Next takes.
-/
import Derived.Test.YtpbadpebnhlmlabRefD
namespace Go.Proofs.Ytpbadpebnhlmlab
open Go.RowKit
set_option linter.unusedVariables false

def nx (L : Lin) : Lin := { L with q := L.q.tail }
def nf (L : Lin) : ByteArray := L.q.headD ⟨#[]⟩
def nb (L : Lin) : Bool := !L.q.isEmpty

/-- Where a list's row lies, it is not block B. -/
def Off (v : Value) (q : List ByteArray) (B : Nat) : Prop := 0 < q.length → ∀ b off n c, v = .slice (some ⟨b, off, none⟩) n c → b ≠ B

theorem next13 (L : Lin) (v : Value) (w : World) (hv : Reads w v L.q) (hlen : L.q.length ≤ 8796093022208) :
    Calls Try.prog 13 #[.agg (L.cells v)] w fun e w' => ∃ v', e = .returned (.tuple #[.agg ((nx L).cells v'), .string (nf L), .bool (nb L)]) ∧ Reads w' v' (nx L).q ∧ Below w.heap.size w w' ∧ ∀ B, B < w.heap.size → Off v' (nx L).q B := by
  cases hq : L.q with
  | nil =>
    refine (next_nil L v w hv hq).mono ?_
    rintro e w' ⟨v', rfl, hr, hb⟩
    have e1 : nx L = L := by cases L; simp_all [nx]
    refine ⟨v', ?_, by rw [e1]; exact hr, hb, fun B hB h0 => ?_⟩
    · rw [e1]; simp [nf, nb, hq]
    · rw [e1, hq] at h0; simp at h0
  | cons f r =>
    refine (next_cons L v w hv f r hq hlen).mono ?_
    rintro e w' ⟨v', rfl, hr, hb, hfar⟩
    have e1 : nx L = { L with q := r } := by simp [nx, hq]
    refine ⟨v', ?_, by rw [e1]; exact hr, hb, fun B hB h0 b off n c e => by have := hfar b off n c e; omega⟩
    rw [e1]; simp [nf, nb, hq]

theorem next14 (L : Lin) (v : Value) (w : World) (hv : Reads w v L.q) (hlen : L.q.length ≤ 8796093022208) :
    Calls Try.prog 14 #[.agg (L.cells v)] w fun e w' => ∃ v', e = .returned (.tuple #[.agg ((nx L).cells v'), .string (nf L), .bool (nb L)]) ∧ Reads w' v' (nx L).q ∧ Below w.heap.size w w' ∧ ∀ B, B < w.heap.size → Off v' (nx L).q B := by
  cases hq : L.q with
  | nil =>
    refine (next14_nil L v w hv hq).mono ?_
    rintro e w' ⟨v', rfl, hr, hb⟩
    have e1 : nx L = L := by cases L; simp_all [nx]
    refine ⟨v', ?_, by rw [e1]; exact hr, hb, fun B hB h0 => ?_⟩
    · rw [e1]; simp [nf, nb, hq]
    · rw [e1, hq] at h0; simp at h0
  | cons f r =>
    refine (next14_cons L v w hv f r hq hlen).mono ?_
    rintro e w' ⟨v', rfl, hr, hb, hfar⟩
    have e1 : nx L = { L with q := r } := by simp [nx, hq]
    refine ⟨v', ?_, by rw [e1]; exact hr, hb, fun B hB h0 b off n c e => by have := hfar b off n c e; omega⟩
    rw [e1]; simp [nf, nb, hq]

theorem cod_behind {w w' : World} {b : Nat} {L : Lin} {v : Value} {B : Nat} (h : Cod w b L v) (hb : Below B w w') (hB : w.heap.size ≤ B) : Cod w' b L v := by
  have := h.lt
  unfold Cod; rw [hb.block _ (by omega)]; exact h

/-- Four blocks and their lists. -/
structure St (T : Prop) (w : World) (b0 b1 b2 b3 : Nat) (L N M : Lin) (v v1 va vb : Value) (w' : World) : Prop where
  k0 : Cod w' b0 L v
  k1 : Cod w' b1 L v1
  k2 : Cod w' b2 N va
  k3 : Cod w' b3 M vb
  r0 : Reads w' v L.q
  r1 : Reads w' v1 L.q
  r2 : Reads w' va N.q
  r3 : T → Reads w' vb M.q
  lo : Below w.heap.size w w'

section
variable {T : Prop} {w w1 w2 : World} {b0 b1 b2 b3 : Nat} {L N M N' : Lin} {v v1 va vb va' : Value}

theorem St.behind {B : Nat} (h : St T w b0 b1 b2 b3 L N M v v1 va vb w1) (hb : Below B w1 w2) (hB : w1.heap.size ≤ B) : St T w b0 b1 b2 b3 L N M v v1 va vb w2 :=
  ⟨cod_behind h.k0 hb hB, cod_behind h.k1 hb hB, cod_behind h.k2 hb hB, cod_behind h.k3 hb hB, h.r0.below hb hB, h.r1.below hb hB, h.r2.below hb hB, fun t => (h.r3 t).below hb hB, h.lo.trans (hb.mono (by have := h.lo.size; omega))⟩

theorem St.drew (h : St T w b0 b1 b2 b3 L N M v v1 va vb w1) : St T w b0 b1 b2 b3 L N M v v1 va vb w1.drew := h.behind (Below.refl w1.heap.size w1).drew (Nat.le_refl _)

theorem St.s (h : St T w b0 b1 b2 b3 L N M v v1 va vb w1) :
    (w1.cell? ⟨b0, 0, none⟩ = some (.string L.now) ∧ w1.cell? ⟨b0, 1, none⟩ = some (.bool L.long) ∧ w1.cell? ⟨b0, 2, none⟩ = some (.bool L.ret) ∧ w1.cell? ⟨b0, 3, none⟩ = some v ∧
     w1.cell? ⟨b1, 0, none⟩ = some (.string L.now) ∧ w1.cell? ⟨b1, 1, none⟩ = some (.bool L.long) ∧ w1.cell? ⟨b1, 2, none⟩ = some (.bool L.ret) ∧ w1.cell? ⟨b1, 3, none⟩ = some v1 ∧
     w1.cell? ⟨b2, 0, none⟩ = some (.string N.now) ∧ w1.cell? ⟨b2, 1, none⟩ = some (.bool N.long) ∧ w1.cell? ⟨b2, 2, none⟩ = some (.bool N.ret) ∧ w1.cell? ⟨b2, 3, none⟩ = some va ∧
     w1.cell? ⟨b3, 0, none⟩ = some (.string M.now) ∧ w1.cell? ⟨b3, 1, none⟩ = some (.bool M.long) ∧ w1.cell? ⟨b3, 2, none⟩ = some (.bool M.ret) ∧ w1.cell? ⟨b3, 3, none⟩ = some vb) ∧
    St T w b0 b1 b2 b3 L N M v v1 va vb w1 :=
  ⟨⟨h.k0.cell 0, h.k0.cell 1, h.k0.cell 2, h.k0.cell 3, h.k1.cell 0, h.k1.cell 1, h.k1.cell 2, h.k1.cell 3, h.k2.cell 0, h.k2.cell 1, h.k2.cell 2, h.k2.cell 3, h.k3.cell 0, h.k3.cell 1, h.k3.cell 2, h.k3.cell 3⟩, h⟩

theorem cod_four_ne {c b : Nat} {x0 x1 x2 x3 : Value} (h : Cod w1 c L v) (hne : c ≠ b) :
    Cod ((((w1.setCell ⟨b, 0, none⟩ x0).setCell ⟨b, 1, none⟩ x1).setCell ⟨b, 2, none⟩ x2).setCell ⟨b, 3, none⟩ x3) c L v :=
  cod_ne (cod_ne (cod_ne (cod_ne h hne _ _) hne _ _) hne _ _) hne _ _

theorem reads_four {b : Nat} {x0 x1 x2 x3 : Value} {q : List ByteArray} (h : Reads w1 v q) (ho : Off v q b) :
    Reads ((((w1.setCell ⟨b, 0, none⟩ x0).setCell ⟨b, 1, none⟩ x1).setCell ⟨b, 2, none⟩ x2).setCell ⟨b, 3, none⟩ x3) v q :=
  (((h.put ho _ _).put ho _ _).put ho _ _).put ho _ _

/-- Lines are laid into the third block. -/
theorem St.third (h : St T w b0 b1 b2 b3 L N M v v1 va vb w1) (hr : Reads w1 va' N'.q) (ho0 : Off v L.q b2) (ho1 : Off v1 L.q b2) (ho2 : Off va' N'.q b2) (h02 : b0 ≠ b2) (h12 : b1 ≠ b2) (h32 : b3 ≠ b2) (hlo : w.heap.size ≤ b2) :
    St False w b0 b1 b2 b3 L N' M v v1 va' vb ((((w1.setCell ⟨b2, 0, none⟩ (.string N'.now)).setCell ⟨b2, 1, none⟩ (.bool N'.long)).setCell ⟨b2, 2, none⟩ (.bool N'.ret)).setCell ⟨b2, 3, none⟩ va') :=
  ⟨cod_four_ne h.k0 h02, cod_four_ne h.k1 h12, cod_four h.k2, cod_four_ne h.k3 h32, reads_four h.r0 ho0, reads_four h.r1 ho1, reads_four hr ho2, fun e => e.elim, below_four h.lo hlo⟩

/-- Lines are laid into the fourth block. -/
theorem St.fourth {M' : Lin} {vb' : Value} (h : St T w b0 b1 b2 b3 L N M v v1 va vb w1) (hr : Reads w1 vb' M'.q) (ho0 : Off v L.q b3) (ho1 : Off v1 L.q b3) (ho2 : Off va N.q b3) (ho3 : Off vb' M'.q b3) (h03 : b0 ≠ b3) (h13 : b1 ≠ b3) (h23 : b2 ≠ b3) (hlo : w.heap.size ≤ b3) :
    St True w b0 b1 b2 b3 L N M' v v1 va vb' ((((w1.setCell ⟨b3, 0, none⟩ (.string M'.now)).setCell ⟨b3, 1, none⟩ (.bool M'.long)).setCell ⟨b3, 2, none⟩ (.bool M'.ret)).setCell ⟨b3, 3, none⟩ vb') :=
  ⟨cod_four_ne h.k0 h03, cod_four_ne h.k1 h13, cod_four_ne h.k2 h23, cod_four h.k3, reads_four h.r0 ho0, reads_four h.r1 ho1, reads_four h.r2 ho2, fun _ => reads_four hr ho3, below_four h.lo hlo⟩
end
end Go.Proofs.Ytpbadpebnhlmlab
