/-
  Lists of texts in memory, the verbs in theirs.
-/
import Derived.Test.YtfbgaimjjfmfaacDoorRows
import Derived.Test.YtfbgaimjjfmfaacDoorWdP
import Derived.WalkKit
import Derived.ProofKit
import Derived.OpenShut
import Derived.ShutString
import Derived.WalkSpells
import Derived.WalkLawsBesides
import Derived.Deep.QuietTactic
import Derived.BigQuiet
import Derived.Deep.RegionWith
import Derived.Maps.AppendAt
import Derived.Laws.Rows
import Derived.Laws.IdiomStrings
import Derived.Lib.Walk
namespace Go.Proofs.YtfbgaimjjfmfaacDoor
open Go.RowKit
set_option linter.unusedVariables false

theorem hide {p : Prop} (h : p) : Hid p := h
theorem ret_bool {a b : Bool} (h : a = b) : Ending.returned (.bool a) = .returned (.bool b) := by rw [h]
theorem Tryd.info9 : (Tryd.prog.info? 9).map (fun i => (i.zero, i.size, i.bytes)) = some (some (.string ⟨#[]⟩), 1, 16) := by kernel_rfl

theorem byte_beq (c : UInt8) (n : Nat) (hn : n < 256) : (((c.toNat : Nat) : Int) == (n : Int)) = decide (c = UInt8.ofNat n) := by
  rw [Bool.eq_iff_iff]
  simp only [beq_iff_eq, decide_eq_true_eq]
  constructor
  · intro h; apply UInt8.toNat.inj; rw [UInt8.toNat_ofNat']; omega
  · intro h; subst h; rw [UInt8.toNat_ofNat']; omega

/-- v is a list of texts in memory, and these are they. -/
def Reads (w : World) (v : Value) (q : List ByteArray) : Prop :=
  ∃ (av : Option Addr) (cap : Nat), v = .slice av q.length cap ∧ q.length ≤ cap ∧ cap ≤ maxLen ∧ (av = none → cap = 0) ∧
    (0 < q.length → ∃ b off, av = some ⟨b, off, none⟩ ∧ ∀ i (h : i < q.length), w.cell? ⟨b, off + i, none⟩ = some (.string q[i]))

theorem cell_lt {w : World} {p : Addr} {v : Value} (h : w.cell? p = some v) : p.block < w.heap.size := by
  simp only [World.cell?] at h
  by_cases hx : p.block < w.heap.size
  · exact hx
  · rw [Array.getElem?_eq_none (by omega)] at h; simp at h

theorem Reads.below {w w' : World} {v : Value} {q : List ByteArray} {B : Nat} (h : Reads w v q) (hb : Below B w w') (hB : w.heap.size ≤ B) : Reads w' v q := by
  obtain ⟨av, cap, e, hl, hm, hn, h⟩ := h
  refine ⟨av, cap, e, hl, hm, hn, fun h0 => ?_⟩
  obtain ⟨b, off, ea, hc⟩ := h h0
  refine ⟨b, off, ea, fun i hi => ?_⟩
  have hlt := cell_lt (hc i hi)
  rw [hb.cell (p := ⟨b, off + i, none⟩) (by simp at hlt ⊢; omega)]; exact hc i hi

theorem Reads.alloc {w : World} {v : Value} {q : List ByteArray} (h : Reads w v q) (o : Obj) : Reads (w.alloc o) v q :=
  h.below ((Below.refl w.heap.size w).alloc (Nat.le_refl _) o) (Nat.le_refl _)

theorem reads_nil (w : World) : Reads w (.slice none 0 0) [] := ⟨none, 0, rfl, Nat.le_refl _, Nat.zero_le _, fun _ => rfl, fun h => by simp at h⟩

def scells (q : List ByteArray) : List Value := q.map .string

theorem scells_length (q : List ByteArray) : (scells q).length = q.length := by simp [scells]
theorem scells_append (q r : List ByteArray) : scells (q ++ r) = scells q ++ scells r := by simp [scells]

theorem reads_own {w : World} {base : Nat} {v : Value} {q : List ByteArray} (h : w.ownsRow base 9 1 v q.length (scells q)) : Reads w v q := by
  rcases h.2 with ⟨rfl, h0⟩ | ⟨g, cap, cur, rfl, hbg, hgg, hnc, hcm, hcs, htake⟩
  · rw [List.eq_nil_of_length_eq_zero h0]; exact reads_nil w
  · refine ⟨some ⟨g, 0, none⟩, cap, rfl, hnc, hcm, fun e => by simp at e, fun _ => ⟨g, 0, rfl, fun i hi => ?_⟩⟩
    have := h.cells (g := g) rfl i (.string q[i]) (by simp [scells, hi])
    by_cases h0 : i = 0
    · subst h0; simpa [Addr.add] using this
    · simpa [Addr.add, h0] using this

theorem Reads.list {w : World} {a : Addr} {cap : Nat} {q : List ByteArray}
    (hc : 0 < q.length → ∃ b off, some a = some (⟨b, off, none⟩ : Addr) ∧ ∀ i (h : i < q.length), w.cell? ⟨b, off + i, none⟩ = some (.string q[i])) :
    ∀ j u, (scells q)[j]? = some u → w.cell? (a.add j) = some u := by
  intro j u hj
  have hlt : j < q.length := by
    have := (List.getElem?_eq_some_iff.1 hj).1; simpa [scells] using this
  obtain ⟨b, off, e, h⟩ := hc (by omega)
  injection e with e; subst e
  have e2 : u = .string q[j] := by
    simp [scells, hlt] at hj; exact hj.symm
  subst e2
  rw [← h j hlt]
  by_cases h0 : j = 0
  · subst h0; rfl
  · simp [Addr.add, h0]

theorem scells_one (q : List ByteArray) : ∀ u ∈ scells q, u.oneCell' = true := by
  intro u hu; simp only [scells, List.mem_map] at hu; obtain ⟨s, _, rfl⟩ := hu; rfl

theorem own_empty (w : World) : (w.alloc (.cells #[] 9)).ownsRow w.heap.size 9 1 (.slice (some ⟨w.heap.size, 0, none⟩) 0 0) 0 [] :=
  ⟨rfl, .inr ⟨w.heap.size, 0, #[], rfl, Nat.le_refl _, heap_alloc_new w _, Nat.le_refl _, Nat.zero_le _, rfl, rfl⟩⟩

theorem own_shape {w : World} {base : Nat} {v : Value} {n : Nat} {xs : List Value} (h : w.ownsRow base 9 1 v n xs) : ∃ (av : Option Addr) (cap : Nat), v = .slice av n cap := by
  rcases h.2 with ⟨rfl, rfl⟩ | ⟨g, cap, cur, rfl, _⟩
  · exact ⟨_, _, rfl⟩
  · exact ⟨_, _, rfl⟩

theorem Reads.shape {w : World} {v : Value} {q : List ByteArray} (h : Reads w v q) : ∃ (av : Option Addr) (cap : Nat), v = .slice av q.length cap := by
  obtain ⟨av, cap, e, _⟩ := h; exact ⟨av, cap, e⟩

theorem Reads.max {w : World} {v : Value} {q : List ByteArray} (h : Reads w v q) : q.length ≤ maxLen := by
  obtain ⟨av, cap, e, h1, h2, _⟩ := h; omega

/-- The list lies at block B or behind it. -/
def Far (B : Nat) (v : Value) : Prop := ∀ b off n c, v = .slice (some ⟨b, off, none⟩) n c → B ≤ b

theorem far_own {w : World} {base : Nat} {v : Value} {n : Nat} {xs : List Value} (h : w.ownsRow base 9 1 v n xs) : Far base v := by
  intro b off n c e
  subst e
  exact (h.lt b rfl).1

theorem Far.mono {B C : Nat} {v : Value} (h : Far B v) (hC : C ≤ B) : Far C v := fun b off n c e => Nat.le_trans hC (h b off n c e)

theorem reads_tail {w : World} {b off cap : Nat} {f : ByteArray} {r : List ByteArray} (h : Reads w (.slice (some ⟨b, off, none⟩) (f :: r).length cap) (f :: r)) :
    Reads w (.slice (if cap = 1 then some ⟨b, off, none⟩ else some ⟨b, off + 1, none⟩) r.length (cap - 1)) r := by
  obtain ⟨av, cap', e, hl, hm, hn, hc⟩ := h
  injection e with e1 e2 e3
  subst e1 e3
  obtain ⟨b', off', e, hcell⟩ := hc (by simp)
  injection e with e; injection e with e1 e2
  subst e1 e2
  simp only [List.length_cons] at hl
  refine ⟨_, cap - 1, rfl, by omega, by omega, ?_, ?_⟩
  · intro e; split at e <;> simp at e
  · intro h0
    refine ⟨b, off + 1, by rw [if_neg (by omega)], fun i hi => ?_⟩
    have := hcell (i + 1) (by simp; omega)
    rw [show off + 1 + i = off + (i + 1) by omega, this]
    simp

/-- The list does not lie in block B. -/
def Off (v : Value) (q : List ByteArray) (B : Nat) : Prop := 0 < q.length → ∀ b off n c, v = .slice (some ⟨b, off, none⟩) n c → b ≠ B

theorem Reads.put {w : World} {v : Value} {q : List ByteArray} (h : Reads w v q) {B : Nat} (hB : Off v q B) (f : Nat) (x : Value) : Reads (w.setCell ⟨B, f, none⟩ x) v q := by
  obtain ⟨av, cap, rfl, hl, hm, hn, hc⟩ := h
  refine ⟨av, cap, rfl, hl, hm, hn, fun h0 => ?_⟩
  obtain ⟨b, off, rfl, hcell⟩ := hc h0
  have hne := hB h0 b off _ _ rfl
  refine ⟨b, off, rfl, fun i hi => ?_⟩
  rw [← hcell i hi]
  have e := Below.heap_setCell w ⟨B, f, none⟩ x b hne
  simp only [World.cell?, e]

theorem Reads.lt {w : World} {v : Value} {q : List ByteArray} (h : Reads w v q) (h0 : 0 < q.length) : ∀ b off n c, v = .slice (some ⟨b, off, none⟩) n c → b < w.heap.size := by
  obtain ⟨av, cap, rfl, hl, hm, hn, hc⟩ := h
  obtain ⟨b, off, rfl, hcell⟩ := hc h0
  intro b' off' n c e
  injection e with e1; injection e1 with e1; injection e1 with e1
  have := cell_lt (hcell 0 h0)
  simp only at this
  omega

theorem off_old {w : World} {v : Value} {q : List ByteArray} {B : Nat} (h : Reads w v q) (hB : w.heap.size ≤ B) : Off v q B := fun h0 b off n c e => by
  have := h.lt h0 b off n c e; omega

theorem off_far {v : Value} {q : List ByteArray} {B C : Nat} (h : Far C v) (hB : B < C) : Off v q B := fun _ b off n c e => by
  have := h b off n c e; omega

theorem below_drewN {B : Nat} {w w' : World} (h : Below B w w') (n : Nat) : Below B w (w'.drewN n) := ⟨h.os, h.tape, h.output, h.size, h.block⟩


theorem grown_set (w : World) (b : Nat) (o : Nat) (v : Value) : w.grownBy (w.setCell ⟨b, o, none⟩ v) (some b) :=
  ⟨rfl, rfl, rfl, by simp [World.setCell], fun k _ hk => Below.heap_setCell _ _ _ _ (by intro e; apply hk; simp [e])⟩

theorem cell_new {w : World} {n : Nat} (hn : n = w.heap.size) (x : Value) (t : TypeId) : (w.alloc (.cells #[x] t)).cell? ⟨n, 0, none⟩ = some x := by
  subst hn; have := heap_alloc_new w (.cells #[x] t); simp only [World.cell?, this]; rfl

section
variable {P : Program} {ops : Array Oper} {rest : List Oper} {op : Oper} {a : Act} {w : World} {Q : Exit → Act → World → Prop}

theorem wl_wanted (hw : Region.wanted op (yielded ops a.tmps) = true) (h : op.wp P a w (wpList P ops Q rest) Q) : wpList P ops Q (op :: rest) a w := by
  simp only [wpList]; rw [if_pos hw]; exact .inl h
end

/-- The verbs' cells. -/
def vcells : Array Value := (verbs.map (fun v => Value.string (bs v))).toArray
theorem vcells_get (i : Nat) (h : i < 21) : vcells[i]? = some (.string (bs (verbs.getD i []))) := by
  have hl : verbs.length = 21 := rfl
  simp [vcells, List.getD, List.getElem?_eq_getElem (show i < verbs.length by omega)]
theorem vcells_size : vcells.size = 21 := rfl

/-- The verbs lie where they were laid. -/
def Vb (w : World) : Prop := ∃ t fr, w.heap[(1 : Nat)]? = some (.cells vcells t fr)
theorem Vb.lt {w : World} (h : Vb w) : 1 < w.heap.size := by
  obtain ⟨t, fr, h⟩ := h; exact (Array.getElem?_eq_some_iff.1 h).1
theorem Vb.below {w w' : World} {B : Nat} (h : Vb w) (hb : Below B w w') (hB : w.heap.size ≤ B) : Vb w' := by
  have hlt := h.lt
  obtain ⟨t, fr, h⟩ := h
  exact ⟨t, fr, by rw [hb.block _ (by omega)]; exact h⟩
theorem Vb.alloc {w : World} (h : Vb w) (o : Obj) : Vb (w.alloc o) := h.below ((Below.refl w.heap.size w).alloc (Nat.le_refl _) o) (Nat.le_refl _)
theorem Vb.drewN {w : World} (h : Vb w) (n : Nat) : Vb (w.drewN n) := h.below (below_drewN (Below.refl w.heap.size w) n) (Nat.le_refl _)
theorem Vb.cell {w : World} (h : Vb w) (i : Nat) (hi : i < 21) : w.cell? ⟨1, i, none⟩ = some (.string (bs (verbs.getD i []))) := by
  obtain ⟨t, fr, h⟩ := h
  simp only [World.cell?, h]
  exact vcells_get i hi
end Go.Proofs.YtfbgaimjjfmfaacDoor
