/-
  Orders in memory; the contracts of speech and deed.
-/
import Derived.Test.YtfbgaimjjfmfaacDoorWdTrim2
import Derived.Test.YtfbgaimjjfmfaacDoorWdSplit
import Derived.Test.YtfbgaimjjfmfaacDoorWdNoun
import Derived.Test.YtfbgaimjjfmfaacDoorWdVerb
import Derived.Deep.WholeRow
import Derived.Laws.CopyOwn
namespace Go.Proofs.YtfbgaimjjfmfaacDoor
open Go.RowKit
set_option linter.unusedVariables false

def Ord.cells (o : Ord) : Array Value := #[.int .i64 o.verb, .int .i64 o.nth, .bool o.all, .string (bs o.name), .string (bs o.second), .string (bs o.text)]

theorem Tryd.sizeOrder : (Tryd.prog.info? 23).map (·.size) = some 6 := by kernel_rfl

/-- What is answered: an order, or ErrForm. -/
def ordA : Option Ord → Value
  | some o => .tuple #[.agg o.cells, .int .i64 0]
  | none => .tuple #[.agg zo.cells, .int .i64 1]

theorem wl_row {P : Program} {ops : Array Oper} {rest : List Oper} {op : Oper} {a : Act} {w : World} {Q : Exit → Act → World → Prop} (ty : TypeId) (x y : Operand) (ho : op.op = .store ty x y) (hw : Region.wanted op (yielded ops a.tmps) = true)
    (g : Nat) (cells : Array Value) (hx : a.eval x = .pointer (some ⟨g, 0, none⟩)) (hy : a.eval y = .agg cells)
    (t : TypeId) (old : Array Value) (hg : w.heap[g]? = some (.cells old t (0, 0))) (hi : (P.info? ty).map (·.size) = some cells.size)
    (hold : old.size = cells.size) (h1 : cells.all (·.oneCell') = true)
    (h : wpList P ops Q rest (a.put op.dst undef) (w.setRow g cells)) : wpList P ops Q (op :: rest) a w :=
  wl_wanted hw (wp_store_row ty x y ho g cells hx hy t old hg hi hold h1 h)

theorem resO {fn : Func} {p a1 : Tmp} (hf : fn.results = #[.cell p 23, .tmp a1]) {tmps : Array Value} {w : World} {b : Nat} {cells : Array Value} {x : Value}
    (h4 : tmps.getD p undef = .pointer (some ⟨b, 0, none⟩)) (h5 : tmps.getD a1 undef = x) (hc : w.heap[b]? = some (.cells cells 23 (0, 0))) (hs : cells.size = 6) :
    (results fn tmps).run Tryd.prog w = .ok (.tuple #[.agg cells, x]) w := by
  have hl := run_loadVar_row w b 23 23 cells (0, 0) _ hc Tryd.underlying23 rfl (by rw [hs]; exact Tryd.sizeOrder)
  simp only [Array.getD_eq_getD_getElem?] at h4 h5
  simp only [results, hf]
  simp [Result.andThen, h4, h5, asAddr, hl]

/-- Block b holds an order of nothing, and no older block was touched. -/
structure Zo (w0 : World) (b : Nat) (w : World) : Prop where
  lo : w0.heap.size ≤ b
  blk : w.heap[b]? = some (.cells zo.cells 23 (0, 0))
  below : Below w0.heap.size w0 w

theorem zo_new (w : World) : Zo w w.heap.size (w.alloc (.cells #[.int .i64 0, .int .i64 0, .bool false, .string ⟨#[]⟩, .string ⟨#[]⟩, .string ⟨#[]⟩] 23)) :=
  ⟨Nat.le_refl _, heap_alloc_new w _, (Below.refl _ _).alloc (Nat.le_refl _) _⟩
theorem Zo.behind {w0 w w' : World} {b : Nat} (h : Zo w0 b w) (hb : Below w.heap.size w w') : Zo w0 b w' :=
  ⟨h.lo, by rw [hb.block _ (Array.getElem?_eq_some_iff.1 h.blk).1]; exact h.blk, h.below.trans (hb.mono h.below.size)⟩
theorem Zo.done {w0 w : World} {b : Nat} (h : Zo w0 b w) (cs : Array Value) : (w.setRow b cs).heap[b]? = some (.cells cs 23 (0, 0)) ∧ Below w0.heap.size w0 (w.setRow b cs) :=
  ⟨setRow_heap w b _ _ _ _ h.blk, below_setRow h.below h.lo _⟩

/-- An order is laid into the result's block. -/
theorem wl_put {ops : Array Oper} {rest : List Oper} {op : Oper} {a : Act} {w w0 : World} {Q : Exit → Act → World → Prop} (x y : Operand) (ho : op.op = .store 23 x y) (hw : Region.wanted op (yielded ops a.tmps) = true)
    {g : Nat} (hz : Zo w0 g w) (hx : a.eval x = .pointer (some ⟨g, 0, none⟩)) (v n : Int) (b : Bool) (p q r : ByteArray) (hy : a.eval y = .agg #[.int .i64 v, .int .i64 n, .bool b, .string p, .string q, .string r])
    (h : wpList Tryd.prog ops Q rest (a.put op.dst undef) (w.setRow g #[.int .i64 v, .int .i64 n, .bool b, .string p, .string q, .string r])) : wpList Tryd.prog ops Q (op :: rest) a w :=
  wl_row 23 x y ho hw g _ hx hy 23 zo.cells hz.blk Tryd.sizeOrder rfl (by simp [Value.oneCell']) h

theorem cut_b (s : ByteArray) (c : UInt8) (w : World) (hs : s.size ≤ 140737488355328) :
    Calls Tryd.prog 22 #[.string s, .string ⟨#[c]⟩] w fun e w' => e = .returned (.tuple #[.string (bs (cutL c s.data.toList).1), .string (bs (cutL c s.data.toList).2.1), .bool (cutL c s.data.toList).2.2]) ∧ Below w.heap.size w w' :=
  (cut_one s c w hs).mono fun e w' ⟨he, n, hn⟩ => ⟨he, by rw [hn]; exact drewN_below _ _⟩
theorem trim_b (s : ByteArray) (w : World) (hs : s.size ≤ 140737488355328) :
    Calls Tryd.prog 30 #[.string s, .string ⟨#[32]⟩] w fun e w' => e = .returned (.string (bs (trimL (trimR s.data.toList)))) ∧ Below w.heap.size w w' :=
  (trim_any s w hs).mono fun e w' ⟨he, n, hn⟩ => ⟨he, by rw [hn]; exact drewN_below _ _⟩
theorem noun_b (s : ByteArray) (w : World) (hs : s.size ≤ 140737488355328) :
    Calls Tryd.prog 13 #[.string s] w fun e w' => e = .returned (nounA (nounL s.data.toList)) ∧ Below w.heap.size w w' :=
  (noun_any s w hs).mono fun e w' ⟨he, n, hn⟩ => ⟨he, by rw [hn]; exact drewN_below _ _⟩

set_option maxHeartbeats 2000000 in
set_option maxRecDepth 100000 in
theorem speech_any (s : ByteArray) (w : World) (hs : s.size ≤ 140737488355328) :
    Calls Tryd.prog 19 #[.string s] w fun e w' => e = .returned (ordA (speechL s.data.toList)) ∧ Below w.heap.size w w' := by
  have l1 := trimL_len s.data.toList
  have l2 := cut_len 32 (trimL s.data.toList)
  rw [size_len] at l1
  have C1 := hide (fun w' => trimleft_any s w' hs)
  have C2 := hide (fun w' => cut_b (bs (trimL s.data.toList)) 32 w' (by rw [bs_size]; omega))
  have C3 := hide (fun w' => trim_b (bs (cutL 32 (trimL s.data.toList)).2.1) w' (by rw [bs_size]; omega))
  rw [bs_data] at C2 C3
  have HV : Hid (speechL s.data.toList = if trimL (trimR (cutL 32 (trimL s.data.toList)).2.1) = [] then none else some { verb := 11, nth := 0, all := false, name := [], second := [], text := trimL (trimR (cutL 32 (trimL s.data.toList)).2.1) }) := rfl
  generalize trimL (trimR (cutL 32 (trimL s.data.toList)).2.1) = T at C3 HV
  generalize cutL 32 (trimL s.data.toList) = K at C2 C3
  clear l1 l2
  have hbt := bs_toList
  cases hT : T.isEmpty
  · have HN := hide (show ¬ T = [] by intro e; rw [e] at hT; simp at hT)
    go_enter Tryd.func19, Tryd.ntmps19
    go_wp2_with fail
    refine (C1.out _).mono ?_
    rintro e w1 ⟨rfl, rfl⟩
    go_wp2_with fail
    refine (C2.out _).mono ?_
    rintro e w1 ⟨rfl, hb1⟩
    have z1 := hide ((zo_new w).behind hb1)
    clear hb1
    go_wp2_with fail
    refine (C3.out _).mono ?_
    rintro e w2 ⟨rfl, hb2⟩
    have z2 := hide (z1.out.behind hb2)
    clear hb2
    go_wp2_with (refine wl_put (.tmp 2) (.tmp 20) rfl rfl z2.out rfl 11 0 false ⟨#[]⟩ ⟨#[]⟩ (bs T) rfl ?_)
    refine bodyPost_ret (resO rfl rfl rfl (z2.out.done _).1 rfl) rfl ⟨ret_any ?_, (z2.out.done _).2⟩
    rw [HV.out, if_neg HN.out]; rfl
  · have HN := hide (show T = [] from List.isEmpty_iff.1 hT)
    go_enter Tryd.func19, Tryd.ntmps19
    go_wp2_with fail
    refine (C1.out _).mono ?_
    rintro e w1 ⟨rfl, rfl⟩
    go_wp2_with fail
    refine (C2.out _).mono ?_
    rintro e w1 ⟨rfl, hb1⟩
    have z1 := hide ((zo_new w).behind hb1)
    clear hb1
    go_wp2_with fail
    refine (C3.out _).mono ?_
    rintro e w2 ⟨rfl, hb2⟩
    have z2 := hide (z1.out.behind hb2)
    clear hb2
    go_wp2_with (refine wl_put (.tmp 2) (.tmp 18) rfl rfl z2.out rfl 0 0 false ⟨#[]⟩ ⟨#[]⟩ ⟨#[]⟩ rfl ?_)
    refine bodyPost_ret (resO rfl rfl rfl (z2.out.done _).1 rfl) rfl ⟨ret_any ?_, (z2.out.done _).2⟩
    rw [HV.out, if_pos HN.out]; rfl
end Go.Proofs.YtfbgaimjjfmfaacDoor
