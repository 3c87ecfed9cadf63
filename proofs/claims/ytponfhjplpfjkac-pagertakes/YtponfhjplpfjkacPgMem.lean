/-
  Pages: plain mathematics; lists of texts and pages in memory.
-/
import Derived.Test.YtponfhjplpfjkacRows
import Derived.WalkKit
import Derived.ProofKit
import Derived.OpenShut
import Derived.ShutString
import Derived.WalkSpells
import Derived.WalkLawsBesides
import Derived.Deep.QuietTactic
import Derived.BigQuiet
import Derived.Deep.RegionWith
import Derived.Maps.AppendAt
namespace Go.Proofs.Ytponfhjplpfjkac
open Go.RowKit
set_option linter.unusedVariables false

/-- A page. -/
structure Pg where
  wait : List ByteArray
  shown : Int
  asking : Bool
  ring : ByteArray
  cut : Bool

/-- Its cells in memory; v: the list that waits. -/
def Pg.cells (P : Pg) (v : Value) : Array Value := #[v, .int .i64 P.shown, .bool P.asking, .string P.ring, .bool P.cut]

def zp : Pg := { wait := [], shown := 0, asking := false, ring := ⟨#[]⟩, cut := false }

def gheight (n : Int) : Bool := decide (0 ≤ n) && decide (n ≤ 200)
def goodP (P : Pg) : Bool := decide (P.wait.length ≤ 60) && decide (P.ring.size ≤ 700) && gheight P.shown

/-- What may come in at all. -/
structure Small (P : Pg) : Prop where
  ring : P.ring.size ≤ 140737488355328
  lo : -9223372036854775808 ≤ P.shown
  hi : P.shown ≤ 9223372036854775807
  len : P.wait.length * 16 ≤ 140737488355328

def sentP (P : Pg) (s : ByteArray) : Pg := if 700 < P.ring.size + s.size then { P with cut := true } else { P with ring := P.ring ++ s }

theorem hide {p : Prop} (h : p) : Hid p := h
theorem ret_bool {a b : Bool} (h : a = b) : Ending.returned (.bool a) = .returned (.bool b) := by rw [h]
theorem Try.info9 : (Try.prog.info? 9).map (fun i => (i.zero, i.size, i.bytes)) = some (some (.string ⟨#[]⟩), 1, 16) := by kernel_rfl

theorem byte_beq (c : UInt8) (n : Nat) (hn : n < 256) : (((c.toNat : Nat) : Int) == (n : Int)) = decide (c = UInt8.ofNat n) := by
  rw [Bool.eq_iff_iff]
  simp only [beq_iff_eq, decide_eq_true_eq]
  constructor
  · intro h; apply UInt8.toNat.inj; rw [UInt8.toNat_ofNat']; omega
  · intro h; subst h; rw [UInt8.toNat_ofNat']; omega

/-- v is a list of texts in memory, and these are they. -/
def Reads (w : World) (v : Value) (q : List ByteArray) : Prop :=
  ∃ (av : Option Addr) (cap : Nat), v = .slice av q.length cap ∧ q.length ≤ cap ∧ cap ≤ maxLen ∧ (av = none → cap = 0) ∧
    (0 < q.length → ∃ b off, av = some ⟨b, off, none⟩ ∧ ∀ i (h : i < q.length), w.cell? ⟨b, off + i, none⟩ = some (.string q[i]))

theorem cell_lt {w : World} {p : Addr} {v : Value} (h : w.cell? p = some v) : p.block < w.heap.size := by
  simp only [World.cell?] at h
  by_cases hx : p.block < w.heap.size
  · exact hx
  · rw [Array.getElem?_eq_none (by omega)] at h; simp at h

theorem Reads.below {w w' : World} {v : Value} {q : List ByteArray} {B : Nat} (h : Reads w v q) (hb : Below B w w') (hB : w.heap.size ≤ B) : Reads w' v q := by
  obtain ⟨av, cap, e, hl, hm, hn, h⟩ := h
  refine ⟨av, cap, e, hl, hm, hn, fun h0 => ?_⟩
  obtain ⟨b, off, ea, hc⟩ := h h0
  refine ⟨b, off, ea, fun i hi => ?_⟩
  have hlt := cell_lt (hc i hi)
  rw [hb.cell (p := ⟨b, off + i, none⟩) (by simp at hlt ⊢; omega)]; exact hc i hi

theorem Reads.alloc {w : World} {v : Value} {q : List ByteArray} (h : Reads w v q) (o : Obj) : Reads (w.alloc o) v q :=
  h.below ((Below.refl w.heap.size w).alloc (Nat.le_refl _) o) (Nat.le_refl _)

theorem reads_nil (w : World) : Reads w (.slice none 0 0) [] := ⟨none, 0, rfl, Nat.le_refl _, Nat.zero_le _, fun _ => rfl, fun h => by simp at h⟩

def scells (q : List ByteArray) : List Value := q.map .string

theorem scells_length (q : List ByteArray) : (scells q).length = q.length := by simp [scells]
theorem scells_append (q r : List ByteArray) : scells (q ++ r) = scells q ++ scells r := by simp [scells]

theorem reads_own {w : World} {base : Nat} {v : Value} {q : List ByteArray} (h : w.ownsRow base 9 1 v q.length (scells q)) : Reads w v q := by
  rcases h.2 with ⟨rfl, h0⟩ | ⟨g, cap, cur, rfl, hbg, hgg, hnc, hcm, hcs, htake⟩
  · rw [List.eq_nil_of_length_eq_zero h0]; exact reads_nil w
  · refine ⟨some ⟨g, 0, none⟩, cap, rfl, hnc, hcm, fun e => by simp at e, fun _ => ⟨g, 0, rfl, fun i hi => ?_⟩⟩
    have := h.cells (g := g) rfl i (.string q[i]) (by simp [scells, hi])
    by_cases h0 : i = 0
    · subst h0; simpa [Addr.add] using this
    · simpa [Addr.add, h0] using this

theorem Reads.list {w : World} {a : Addr} {cap : Nat} {q : List ByteArray}
    (hc : 0 < q.length → ∃ b off, some a = some (⟨b, off, none⟩ : Addr) ∧ ∀ i (h : i < q.length), w.cell? ⟨b, off + i, none⟩ = some (.string q[i])) :
    ∀ j u, (scells q)[j]? = some u → w.cell? (a.add j) = some u := by
  intro j u hj
  have hlt : j < q.length := by
    have := (List.getElem?_eq_some_iff.1 hj).1; simpa [scells] using this
  obtain ⟨b, off, e, h⟩ := hc (by omega)
  injection e with e; subst e
  have e2 : u = .string q[j] := by
    simp [scells, hlt] at hj; exact hj.symm
  subst e2
  rw [← h j hlt]
  by_cases h0 : j = 0
  · subst h0; rfl
  · simp [Addr.add, h0]

theorem scells_one (q : List ByteArray) : ∀ u ∈ scells q, u.oneCell' = true := by
  intro u hu; simp only [scells, List.mem_map] at hu; obtain ⟨s, _, rfl⟩ := hu; rfl

theorem own_empty (w : World) : (w.alloc (.cells #[] 9)).ownsRow w.heap.size 9 1 (.slice (some ⟨w.heap.size, 0, none⟩) 0 0) 0 [] :=
  ⟨rfl, .inr ⟨w.heap.size, 0, #[], rfl, Nat.le_refl _, heap_alloc_new w _, Nat.le_refl _, Nat.zero_le _, rfl, rfl⟩⟩

theorem own_shape {w : World} {base : Nat} {v : Value} {n : Nat} {xs : List Value} (h : w.ownsRow base 9 1 v n xs) : ∃ (av : Option Addr) (cap : Nat), v = .slice av n cap := by
  rcases h.2 with ⟨rfl, rfl⟩ | ⟨g, cap, cur, rfl, _⟩
  · exact ⟨_, _, rfl⟩
  · exact ⟨_, _, rfl⟩

theorem Reads.shape {w : World} {v : Value} {q : List ByteArray} (h : Reads w v q) : ∃ (av : Option Addr) (cap : Nat), v = .slice av q.length cap := by
  obtain ⟨av, cap, e, _⟩ := h; exact ⟨av, cap, e⟩

theorem Reads.max {w : World} {v : Value} {q : List ByteArray} (h : Reads w v q) : q.length ≤ maxLen := by
  obtain ⟨av, cap, e, h1, h2, _⟩ := h; omega

/-- The list lies at block B or behind it. -/
def Far (B : Nat) (v : Value) : Prop := ∀ b off n c, v = .slice (some ⟨b, off, none⟩) n c → B ≤ b

theorem far_own {w : World} {base : Nat} {v : Value} {n : Nat} {xs : List Value} (h : w.ownsRow base 9 1 v n xs) : Far base v := by
  intro b off n c e
  subst e
  exact (h.lt b rfl).1

theorem Far.mono {B C : Nat} {v : Value} (h : Far B v) (hC : C ≤ B) : Far C v := fun b off n c e => Nat.le_trans hC (h b off n c e)

theorem reads_tail {w : World} {b off cap : Nat} {f : ByteArray} {r : List ByteArray} (h : Reads w (.slice (some ⟨b, off, none⟩) (f :: r).length cap) (f :: r)) :
    Reads w (.slice (if cap = 1 then some ⟨b, off, none⟩ else some ⟨b, off + 1, none⟩) r.length (cap - 1)) r := by
  obtain ⟨av, cap', e, hl, hm, hn, hc⟩ := h
  injection e with e1 e2 e3
  subst e1 e3
  obtain ⟨b', off', e, hcell⟩ := hc (by simp)
  injection e with e; injection e with e1 e2
  subst e1 e2
  simp only [List.length_cons] at hl
  refine ⟨_, cap - 1, rfl, by omega, by omega, ?_, ?_⟩
  · intro e; split at e <;> simp at e
  · intro h0
    refine ⟨b, off + 1, by rw [if_neg (by omega)], fun i hi => ?_⟩
    have := hcell (i + 1) (by simp; omega)
    rw [show off + 1 + i = off + (i + 1) by omega, this]
    simp

/-- The list does not lie in block B. -/
def Off (v : Value) (q : List ByteArray) (B : Nat) : Prop := 0 < q.length → ∀ b off n c, v = .slice (some ⟨b, off, none⟩) n c → b ≠ B

theorem Reads.put {w : World} {v : Value} {q : List ByteArray} (h : Reads w v q) {B : Nat} (hB : Off v q B) (f : Nat) (x : Value) : Reads (w.setCell ⟨B, f, none⟩ x) v q := by
  obtain ⟨av, cap, rfl, hl, hm, hn, hc⟩ := h
  refine ⟨av, cap, rfl, hl, hm, hn, fun h0 => ?_⟩
  obtain ⟨b, off, rfl, hcell⟩ := hc h0
  have hne := hB h0 b off _ _ rfl
  refine ⟨b, off, rfl, fun i hi => ?_⟩
  rw [← hcell i hi]
  have e := Below.heap_setCell w ⟨B, f, none⟩ x b hne
  simp only [World.cell?, e]

theorem Reads.lt {w : World} {v : Value} {q : List ByteArray} (h : Reads w v q) (h0 : 0 < q.length) : ∀ b off n c, v = .slice (some ⟨b, off, none⟩) n c → b < w.heap.size := by
  obtain ⟨av, cap, rfl, hl, hm, hn, hc⟩ := h
  obtain ⟨b, off, rfl, hcell⟩ := hc h0
  intro b' off' n c e
  injection e with e1; injection e1 with e1; injection e1 with e1
  have := cell_lt (hcell 0 h0)
  simp only at this
  omega

theorem off_old {w : World} {v : Value} {q : List ByteArray} {B : Nat} (h : Reads w v q) (hB : w.heap.size ≤ B) : Off v q B := fun h0 b off n c e => by
  have := h.lt h0 b off n c e; omega

theorem off_far {v : Value} {q : List ByteArray} {B C : Nat} (h : Far C v) (hB : B < C) : Off v q B := fun _ b off n c e => by
  have := h b off n c e; omega

theorem below_drewN {B : Nat} {w w' : World} (h : Below B w w') (n : Nat) : Below B w (w'.drewN n) := ⟨h.os, h.tape, h.output, h.size, h.block⟩

/-- Block b holds the page P, the list being v. -/
def Cod (w : World) (b : Nat) (P : Pg) (v : Value) : Prop := w.heap[b]? = some (.cells (P.cells v) 25 (0, 0))

section
variable {w w' : World} {b : Nat} {P : Pg} {v : Value}

theorem Cod.cell (h : Cod w b P v) (o : Nat) : w.cell? ⟨b, o, none⟩ = (P.cells v)[o]? := by
  unfold Cod at h; simp [World.cell?, h]

theorem Cod.frozen (h : Cod w b P v) (o : Nat) : w.frozen? ⟨b, o, none⟩ = false := by
  unfold Cod at h; simp [World.frozen?, h]

theorem Cod.lt (h : Cod w b P v) : b < w.heap.size := (Array.getElem?_eq_some_iff.1 h).1

theorem Cod.all (h : Cod w b P v) :
    w.cell? ⟨b, 0, none⟩ = some v ∧ w.cell? ⟨b, 1, none⟩ = some (.int .i64 P.shown) ∧ w.cell? ⟨b, 2, none⟩ = some (.bool P.asking) ∧ w.cell? ⟨b, 3, none⟩ = some (.string P.ring) ∧ w.cell? ⟨b, 4, none⟩ = some (.bool P.cut) ∧ ∀ o, w.frozen? ⟨b, o, none⟩ = false :=
  ⟨h.cell 0, h.cell 1, h.cell 2, h.cell 3, h.cell 4, h.frozen⟩

theorem cod_mk {cs : Array Value} (h : w.heap[b]? = some (.cells cs 25 (0, 0))) (e : cs = P.cells v) : Cod w b P v := by
  subst e; exact h

theorem cod_set {cs : Array Value} (h : w.heap[b]? = some (.cells cs 25 (0, 0))) (o : Nat) (u : Value) :
    (w.setCell ⟨b, o, none⟩ u).heap[b]? = some (.cells (cs.setIfInBounds o u) 25 (0, 0)) := heap_setCell_same w b o cs 25 u h

theorem cod_ne {c : Nat} {x : Option Obj} (h : w.heap[c]? = x) (hne : c ≠ b) (o : Nat) (u : Value) : (w.setCell ⟨b, o, none⟩ u).heap[c]? = x := by
  rw [Below.heap_setCell _ _ _ _ hne]; exact h

theorem cod_alloc {c : Nat} {x : Obj} (h : w.heap[c]? = some x) (o : Obj) : (w.alloc o).heap[c]? = some x := by
  rw [Below.heap_alloc _ _ _ (Array.getElem?_eq_some_iff.1 h).1]; exact h

theorem cod_behind {B : Nat} (h : Cod w b P v) (hb : Below B w w') (hB : w.heap.size ≤ B) : Cod w' b P v := by
  have := h.lt
  unfold Cod; rw [hb.block _ (by omega)]; exact h

theorem cod_new {B : Nat} (hB : Below B (w.alloc (.cells (P.cells v) 25)) w') (hlt : w.heap.size < B) : Cod w' w.heap.size P v := by
  unfold Cod; rw [hB.block _ hlt]; exact heap_alloc_new w _

theorem cod_old {o : Obj} {B : Nat} (h : Cod w b P v) (hB : Below B (w.alloc o) w') (hlt : w.heap.size ≤ B) : Cod w' b P v := by
  have h1 := h.lt
  unfold Cod; rw [hB.block _ (by omega)]; exact cod_alloc h o

/-- Two blocks were made one behind the other: a page, and a page of nothing. -/
theorem cod_two : Cod ((w.alloc (.cells (P.cells v) 25)).alloc (.cells (zp.cells (.slice none 0 0)) 25)) w.heap.size P v ∧
    Cod ((w.alloc (.cells (P.cells v) 25)).alloc (.cells (zp.cells (.slice none 0 0)) 25)) (w.heap.size + 1) zp (.slice none 0 0) := by
  refine ⟨cod_alloc (heap_alloc_new w _) _, ?_⟩
  have := heap_alloc_new (w.alloc (.cells (P.cells v) 25)) (.cells (zp.cells (.slice none 0 0)) 25)
  rw [World.size_alloc] at this
  exact this
end

theorem below_two {w : World} {o o' : Obj} : Below w.heap.size w ((w.alloc o).alloc o') := ((Below.refl _ _).alloc (Nat.le_refl _) _).alloc (by simp) _

theorem below_old {w0 w w' : World} {o : Obj} {B : Nat} (h : Below w0.heap.size w0 w) (hB : Below B (w.alloc o) w') (hlt : w.heap.size ≤ B) : Below w0.heap.size w0 w' :=
  (h.alloc h.size o).trans (hB.mono (by have := h.size; omega))

theorem Reads.old {w w' : World} {v : Value} {q : List ByteArray} {o : Obj} {B : Nat} (h : Reads w v q) (hB : Below B (w.alloc o) w') (hlt : w.heap.size < B) : Reads w' v q :=
  (h.alloc o).below hB (by rw [World.size_alloc]; omega)

theorem grown_set (w : World) (b : Nat) (o : Nat) (v : Value) : w.grownBy (w.setCell ⟨b, o, none⟩ v) (some b) :=
  ⟨rfl, rfl, rfl, by simp [World.setCell], fun k _ hk => Below.heap_setCell _ _ _ _ (by intro e; apply hk; simp [e])⟩

theorem cell_new {w : World} {n : Nat} (hn : n = w.heap.size) (x : Value) (t : TypeId) : (w.alloc (.cells #[x] t)).cell? ⟨n, 0, none⟩ = some x := by
  subst hn; have := heap_alloc_new w (.cells #[x] t); simp only [World.cell?, this]; rfl

theorem Try.size25 : (Try.prog.info? 25).map (·.size) = some 5 := by kernel_rfl

theorem load25 (w : World) (b : Nat) (P : Pg) (v : Value) (h : Cod w b P v) : (loadVar 25 ⟨b, 0, none⟩).run Try.prog w = .ok (.agg (P.cells v)) w :=
  run_loadVar_row w b 25 25 (P.cells v) (0, 0) _ h Try.underlying25 rfl Try.size25

theorem res1 {fn : Func} {p : Tmp} (hf : fn.results = #[.cell p 25]) {tmps : Array Value} {w : World} {b : Nat} {P : Pg} {v : Value}
    (h4 : tmps.getD p undef = .pointer (some ⟨b, 0, none⟩)) (hc : Cod w b P v) :
    (results fn tmps).run Try.prog w = .ok (.agg (P.cells v)) w := by
  simp only [Array.getD_eq_getD_getElem?] at h4
  simp only [results, hf]
  simp [h4, asAddr, load25 w b P v hc]

theorem res2 {fn : Func} {p a1 : Tmp} (hf : fn.results = #[.cell p 25, .tmp a1]) {tmps : Array Value} {w : World} {b : Nat} {P : Pg} {v x : Value}
    (h4 : tmps.getD p undef = .pointer (some ⟨b, 0, none⟩)) (h5 : tmps.getD a1 undef = x) (hc : Cod w b P v) :
    (results fn tmps).run Try.prog w = .ok (.tuple #[.agg (P.cells v), x]) w := by
  simp only [Array.getD_eq_getD_getElem?] at h4 h5
  simp only [results, hf]
  simp [Result.andThen, h4, h5, asAddr, load25 w b P v hc]

section
variable {w w0 : World} {b : Nat} {P M : Pg} {v u : Value} {x0 x1 x2 x3 x4 : Value}

/-- Five stores lay a page over another. -/
theorem cod_five (h : Cod w b M u) :
    Cod (((((w.setCell ⟨b, 0, none⟩ v).setCell ⟨b, 1, none⟩ (.int .i64 P.shown)).setCell ⟨b, 2, none⟩ (.bool P.asking)).setCell ⟨b, 3, none⟩ (.string P.ring)).setCell ⟨b, 4, none⟩ (.bool P.cut)) b P v :=
  cod_mk (cod_set (cod_set (cod_set (cod_set (cod_set h _ _) _ _) _ _) _ _) _ _) (by simp [Pg.cells])

theorem cod_five_ne {c : Nat} (h : Cod w c P v) (hne : c ≠ b) :
    Cod (((((w.setCell ⟨b, 0, none⟩ x0).setCell ⟨b, 1, none⟩ x1).setCell ⟨b, 2, none⟩ x2).setCell ⟨b, 3, none⟩ x3).setCell ⟨b, 4, none⟩ x4) c P v :=
  cod_ne (cod_ne (cod_ne (cod_ne (cod_ne h hne _ _) hne _ _) hne _ _) hne _ _) hne _ _

theorem below_five {a : World} {B : Nat} (h : Below B a w) (hB : B ≤ b) :
    Below B a (((((w.setCell ⟨b, 0, none⟩ x0).setCell ⟨b, 1, none⟩ x1).setCell ⟨b, 2, none⟩ x2).setCell ⟨b, 3, none⟩ x3).setCell ⟨b, 4, none⟩ x4) :=
  ((((h.setCell hB _).setCell hB _).setCell hB _).setCell hB _).setCell hB _

theorem reads_five {q : List ByteArray} (h : Reads w v q) (ho : Off v q b) :
    Reads (((((w.setCell ⟨b, 0, none⟩ x0).setCell ⟨b, 1, none⟩ x1).setCell ⟨b, 2, none⟩ x2).setCell ⟨b, 3, none⟩ x3).setCell ⟨b, 4, none⟩ x4) v q :=
  ((((h.put ho _ _).put ho _ _).put ho _ _).put ho _ _).put ho _ _
end
end Go.Proofs.Ytponfhjplpfjkac
