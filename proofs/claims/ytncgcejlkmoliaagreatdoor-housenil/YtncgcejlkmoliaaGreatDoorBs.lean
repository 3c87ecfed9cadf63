/-
  What every text here stands on: lists of texts in memory, laws of the walk, == on plain fields.
-/
import Derived.Test.YtncgcejlkmoliaaGreatDoorRows
import Derived.WalkKit
import Derived.ProofKit
import Derived.OpenShut
import Derived.ShutString
import Derived.WalkSpells
import Derived.WalkLawsBesides
import Derived.Deep.QuietTactic
import Derived.BigQuiet
import Derived.Deep.RegionWith
import Derived.Deep.MidRow
import Derived.Deep.DeepCutAuto
import Derived.Deep.WholeRow
import Derived.Maps.AppendAt
import Derived.Laws.Rows
import Derived.Laws.StructEq
import Derived.Laws.IdiomStrings
import Derived.Laws.CopyOwn
import Derived.Lib.Walk
namespace Go.Proofs.YtncgcejlkmoliaaGreatDoor
open Go.RowKit
set_option linter.unusedVariables false

theorem hide {p : Prop} (h : p) : Hid p := h
theorem ret_int {a b : Int} (h : a = b) : Ending.returned (.int .i64 a) = .returned (.int .i64 b) := by rw [h]
theorem ret_str {a b : ByteArray} (h : a = b) : Ending.returned (.string a) = .returned (.string b) := by rw [h]
theorem ret_any {a b : Value} (h : a = b) : Ending.returned a = .returned b := by rw [h]
theorem ret_bool {a b : Bool} (h : a = b) : Ending.returned (.bool a) = .returned (.bool b) := by rw [h]
theorem Tryz.cells4 : Tryz.prog.cellsOf 4 = 1 := by kernel_rfl
theorem Tryz.info9 : (Tryz.prog.info? 9).map (fun i => (i.zero, i.size, i.bytes)) = some (some (.string ⟨#[]⟩), 1, 16) := by kernel_rfl

theorem byte_beq (c : UInt8) (n : Nat) (hn : n < 256) : (((c.toNat : Nat) : Int) == (n : Int)) = decide (c = UInt8.ofNat n) := by
  rw [Bool.eq_iff_iff]
  simp only [beq_iff_eq, decide_eq_true_eq]
  constructor
  · intro h; apply UInt8.toNat.inj; rw [UInt8.toNat_ofNat']; omega
  · intro h; subst h; rw [UInt8.toNat_ofNat']; omega

/-- v is a list of texts in memory, and these are they. -/
def Reads (w : World) (v : Value) (q : List ByteArray) : Prop :=
  ∃ (av : Option Addr) (cap : Nat), v = .slice av q.length cap ∧ q.length ≤ cap ∧ cap ≤ maxLen ∧ (av = none → cap = 0) ∧
    (0 < q.length → ∃ b off, av = some ⟨b, off, none⟩ ∧ ∀ i (h : i < q.length), w.cell? ⟨b, off + i, none⟩ = some (.string q[i]))

theorem cell_lt {w : World} {p : Addr} {v : Value} (h : w.cell? p = some v) : p.block < w.heap.size := by
  simp only [World.cell?] at h
  by_cases hx : p.block < w.heap.size
  · exact hx
  · rw [Array.getElem?_eq_none (by omega)] at h; simp at h

theorem Reads.below {w w' : World} {v : Value} {q : List ByteArray} {B : Nat} (h : Reads w v q) (hb : Below B w w') (hB : w.heap.size ≤ B) : Reads w' v q := by
  obtain ⟨av, cap, e, hl, hm, hn, h⟩ := h
  refine ⟨av, cap, e, hl, hm, hn, fun h0 => ?_⟩
  obtain ⟨b, off, ea, hc⟩ := h h0
  refine ⟨b, off, ea, fun i hi => ?_⟩
  have hlt := cell_lt (hc i hi)
  rw [hb.cell (p := ⟨b, off + i, none⟩) (by simp at hlt ⊢; omega)]; exact hc i hi

theorem Reads.alloc {w : World} {v : Value} {q : List ByteArray} (h : Reads w v q) (o : Obj) : Reads (w.alloc o) v q :=
  h.below ((Below.refl w.heap.size w).alloc (Nat.le_refl _) o) (Nat.le_refl _)

theorem reads_nil (w : World) : Reads w (.slice none 0 0) [] := ⟨none, 0, rfl, Nat.le_refl _, Nat.zero_le _, fun _ => rfl, fun h => by simp at h⟩

def scells (q : List ByteArray) : List Value := q.map .string

theorem scells_length (q : List ByteArray) : (scells q).length = q.length := by simp [scells]
theorem scells_append (q r : List ByteArray) : scells (q ++ r) = scells q ++ scells r := by simp [scells]

theorem reads_own {w : World} {base : Nat} {v : Value} {q : List ByteArray} (h : w.ownsRow base 9 1 v q.length (scells q)) : Reads w v q := by
  rcases h.2 with ⟨rfl, h0⟩ | ⟨g, cap, cur, rfl, hbg, hgg, hnc, hcm, hcs, htake⟩
  · rw [List.eq_nil_of_length_eq_zero h0]; exact reads_nil w
  · refine ⟨some ⟨g, 0, none⟩, cap, rfl, hnc, hcm, fun e => by simp at e, fun _ => ⟨g, 0, rfl, fun i hi => ?_⟩⟩
    have := h.cells (g := g) rfl i (.string q[i]) (by simp [scells, hi])
    by_cases h0 : i = 0
    · subst h0; simpa [Addr.add] using this
    · simpa [Addr.add, h0] using this

theorem Reads.list {w : World} {a : Addr} {cap : Nat} {q : List ByteArray}
    (hc : 0 < q.length → ∃ b off, some a = some (⟨b, off, none⟩ : Addr) ∧ ∀ i (h : i < q.length), w.cell? ⟨b, off + i, none⟩ = some (.string q[i])) :
    ∀ j u, (scells q)[j]? = some u → w.cell? (a.add j) = some u := by
  intro j u hj
  have hlt : j < q.length := by
    have := (List.getElem?_eq_some_iff.1 hj).1; simpa [scells] using this
  obtain ⟨b, off, e, h⟩ := hc (by omega)
  injection e with e; subst e
  have e2 : u = .string q[j] := by
    simp [scells, hlt] at hj; exact hj.symm
  subst e2
  rw [← h j hlt]
  by_cases h0 : j = 0
  · subst h0; rfl
  · simp [Addr.add, h0]

theorem scells_one (q : List ByteArray) : ∀ u ∈ scells q, u.oneCell' = true := by
  intro u hu; simp only [scells, List.mem_map] at hu; obtain ⟨s, _, rfl⟩ := hu; rfl

theorem own_empty (w : World) : (w.alloc (.cells #[] 9)).ownsRow w.heap.size 9 1 (.slice (some ⟨w.heap.size, 0, none⟩) 0 0) 0 [] :=
  ⟨rfl, .inr ⟨w.heap.size, 0, #[], rfl, Nat.le_refl _, heap_alloc_new w _, Nat.le_refl _, Nat.zero_le _, rfl, rfl⟩⟩

theorem own_shape {w : World} {base : Nat} {v : Value} {n : Nat} {xs : List Value} (h : w.ownsRow base 9 1 v n xs) : ∃ (av : Option Addr) (cap : Nat), v = .slice av n cap := by
  rcases h.2 with ⟨rfl, rfl⟩ | ⟨g, cap, cur, rfl, _⟩
  · exact ⟨_, _, rfl⟩
  · exact ⟨_, _, rfl⟩

theorem Reads.shape {w : World} {v : Value} {q : List ByteArray} (h : Reads w v q) : ∃ (av : Option Addr) (cap : Nat), v = .slice av q.length cap := by
  obtain ⟨av, cap, e, _⟩ := h; exact ⟨av, cap, e⟩

theorem Reads.max {w : World} {v : Value} {q : List ByteArray} (h : Reads w v q) : q.length ≤ maxLen := by
  obtain ⟨av, cap, e, h1, h2, _⟩ := h; omega

/-- The list lies at block B or behind it. -/
def Far (B : Nat) (v : Value) : Prop := ∀ b off n c, v = .slice (some ⟨b, off, none⟩) n c → B ≤ b

theorem far_own {w : World} {base : Nat} {v : Value} {n : Nat} {xs : List Value} (h : w.ownsRow base 9 1 v n xs) : Far base v := by
  intro b off n c e
  subst e
  exact (h.lt b rfl).1

theorem Far.mono {B C : Nat} {v : Value} (h : Far B v) (hC : C ≤ B) : Far C v := fun b off n c e => Nat.le_trans hC (h b off n c e)

theorem reads_tail {w : World} {b off cap : Nat} {f : ByteArray} {r : List ByteArray} (h : Reads w (.slice (some ⟨b, off, none⟩) (f :: r).length cap) (f :: r)) :
    Reads w (.slice (if cap = 1 then some ⟨b, off, none⟩ else some ⟨b, off + 1, none⟩) r.length (cap - 1)) r := by
  obtain ⟨av, cap', e, hl, hm, hn, hc⟩ := h
  injection e with e1 e2 e3
  subst e1 e3
  obtain ⟨b', off', e, hcell⟩ := hc (by simp)
  injection e with e; injection e with e1 e2
  subst e1 e2
  simp only [List.length_cons] at hl
  refine ⟨_, cap - 1, rfl, by omega, by omega, ?_, ?_⟩
  · intro e; split at e <;> simp at e
  · intro h0
    refine ⟨b, off + 1, by rw [if_neg (by omega)], fun i hi => ?_⟩
    have := hcell (i + 1) (by simp; omega)
    rw [show off + 1 + i = off + (i + 1) by omega, this]
    simp

/-- The list does not lie in block B. -/
def Off (v : Value) (q : List ByteArray) (B : Nat) : Prop := 0 < q.length → ∀ b off n c, v = .slice (some ⟨b, off, none⟩) n c → b ≠ B

theorem Reads.put {w : World} {v : Value} {q : List ByteArray} (h : Reads w v q) {B : Nat} (hB : Off v q B) (f : Nat) (x : Value) : Reads (w.setCell ⟨B, f, none⟩ x) v q := by
  obtain ⟨av, cap, rfl, hl, hm, hn, hc⟩ := h
  refine ⟨av, cap, rfl, hl, hm, hn, fun h0 => ?_⟩
  obtain ⟨b, off, rfl, hcell⟩ := hc h0
  have hne := hB h0 b off _ _ rfl
  refine ⟨b, off, rfl, fun i hi => ?_⟩
  rw [← hcell i hi]
  have e := Below.heap_setCell w ⟨B, f, none⟩ x b hne
  simp only [World.cell?, e]

theorem Reads.lt {w : World} {v : Value} {q : List ByteArray} (h : Reads w v q) (h0 : 0 < q.length) : ∀ b off n c, v = .slice (some ⟨b, off, none⟩) n c → b < w.heap.size := by
  obtain ⟨av, cap, rfl, hl, hm, hn, hc⟩ := h
  obtain ⟨b, off, rfl, hcell⟩ := hc h0
  intro b' off' n c e
  injection e with e1; injection e1 with e1; injection e1 with e1
  have := cell_lt (hcell 0 h0)
  simp only at this
  omega

theorem off_old {w : World} {v : Value} {q : List ByteArray} {B : Nat} (h : Reads w v q) (hB : w.heap.size ≤ B) : Off v q B := fun h0 b off n c e => by
  have := h.lt h0 b off n c e; omega

theorem off_far {v : Value} {q : List ByteArray} {B C : Nat} (h : Far C v) (hB : B < C) : Off v q B := fun _ b off n c e => by
  have := h b off n c e; omega

theorem below_drewN {B : Nat} {w w' : World} (h : Below B w w') (n : Nat) : Below B w (w'.drewN n) := ⟨h.os, h.tape, h.output, h.size, h.block⟩


theorem grown_set (w : World) (b : Nat) (o : Nat) (v : Value) : w.grownBy (w.setCell ⟨b, o, none⟩ v) (some b) :=
  ⟨rfl, rfl, rfl, by simp [World.setCell], fun k _ hk => Below.heap_setCell _ _ _ _ (by intro e; apply hk; simp [e])⟩

theorem cell_new {w : World} {n : Nat} (hn : n = w.heap.size) (x : Value) (t : TypeId) : (w.alloc (.cells #[x] t)).cell? ⟨n, 0, none⟩ = some x := by
  subst hn; have := heap_alloc_new w (.cells #[x] t); simp only [World.cell?, this]; rfl

section
variable {P : Program} {ops : Array Oper} {rest : List Oper} {op : Oper} {a : Act} {w : World} {Q : Exit → Act → World → Prop}

theorem wl_wanted (hw : Region.wanted op (yielded ops a.tmps) = true) (h : op.wp P a w (wpList P ops Q rest) Q) : wpList P ops Q (op :: rest) a w := by
  simp only [wpList]; rw [if_pos hw]; exact .inl h
end

theorem wl_row {P : Program} {ops : Array Oper} {rest : List Oper} {op : Oper} {a : Act} {w : World} {Q : Exit → Act → World → Prop} (ty : TypeId) (x y : Operand) (ho : op.op = .store ty x y) (hw : Region.wanted op (yielded ops a.tmps) = true)
    (g : Nat) (cells : Array Value) (hx : a.eval x = .pointer (some ⟨g, 0, none⟩)) (hy : a.eval y = .agg cells)
    (t : TypeId) (old : Array Value) (hg : w.heap[g]? = some (.cells old t (0, 0))) (hi : (P.info? ty).map (·.size) = some cells.size)
    (hold : old.size = cells.size) (h1 : cells.all (·.oneCell') = true)
    (h : wpList P ops Q rest (a.put op.dst undef) (w.setRow g cells)) : wpList P ops Q (op :: rest) a w :=
  wl_wanted hw (wp_store_row ty x y ho g cells hx hy t old hg hi hold h1 h)

section
variable {P : Program} {w : World}
theorem eq_fields {d : Nat} {xs : Array Value} : ∀ (fs : List Field), (∀ f ∈ fs, ∃ v, (part f.type xs f.offset).run P w = .ok v w ∧ (Op.equalIn d f.type v v).run P w = .ok true w) → (Op.eqFields d xs xs fs).run P w = .ok true w
  | [], _ => by simp [Op.eqFields]
  | f :: fs, h => by
    obtain ⟨v, h1, h2⟩ := h f (List.mem_cons_self ..)
    have ih := eq_fields fs (fun g hg => h g (List.mem_cons_of_mem _ hg))
    by_cases hn : f.name = "_"
    · simpa [Op.eqFields, hn] using ih
    · simp only [Op.eqFields, hn, ne_eq, not_false_eq_true, if_true, Sem.run_bind, h1, h2, Result.andThen_ok]
      simpa using ih
end

section
variable {w : World}
theorem part1 (t : TypeId) (d : TypeDesc) (ht : Tryz.prog.underlying t = some d) (hd : (match d with | .struct _ | .array _ _ => true | _ => false) = false) (i : Nat) (x : Value) (xs : Array Value) (h : xs[i]? = some x) : (part t xs i).run Tryz.prog w = .ok x w := by
  have ha : (isAgg t).run Tryz.prog w = .ok false w := by
    unfold isAgg; rw [Sem.run_bind, run_underlying ht w]
    cases d <;> simp_all
  simp [part, ha, h]
theorem eqi (d : Nat) (a : Int) : (Op.equalIn (d + 1) 3 (.int .i64 a) (.int .i64 a)).run Tryz.prog w = .ok true w := by
  rw [run_equalIn_int w d 3 .i64 .i64 a a Tryz.underlying3]; simp
theorem eqb (d : Nat) (a : Bool) : (Op.equalIn (d + 1) 4 (.bool a) (.bool a)).run Tryz.prog w = .ok true w := by
  rw [run_equalIn_bool w d 4 a a Tryz.underlying4]; simp
theorem eqs (d : Nat) (a : ByteArray) : (Op.equalIn (d + 1) 9 (.string a) (.string a)).run Tryz.prog w = .ok true w := by
  rw [run_equalIn_string w d 9 a a Tryz.underlying9]; simp
end
end Go.Proofs.YtncgcejlkmoliaaGreatDoor
