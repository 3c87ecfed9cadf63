/-
  New, and Opposite at 1: contracts.
-/
import Derived.Test.YtponfhjplpfjkacLdNew
namespace Go.Proofs.Ytponfhjplpfjkac
open Go.RowKit
set_option linter.unusedVariables false

theorem wl_row {P : Program} {ops : Array Oper} {rest : List Oper} {op : Oper} {a : Act} {w : World} {Q : Exit → Act → World → Prop} (ty : TypeId) (x y : Operand) (ho : op.op = .store ty x y) (hw : Region.wanted op (yielded ops a.tmps) = true)
    (g : Nat) (cells : Array Value) (hx : a.eval x = .pointer (some ⟨g, 0, none⟩)) (hy : a.eval y = .agg cells)
    (t : TypeId) (old : Array Value) (hg : w.heap[g]? = some (.cells old t (0, 0))) (hi : (P.info? ty).map (·.size) = some cells.size)
    (hold : old.size = cells.size) (h1 : cells.all (·.oneCell') = true)
    (h : wpList P ops Q rest (a.put op.dst undef) (w.setRow g cells)) : wpList P ops Q (op :: rest) a w :=
  wl_wanted hw (wp_store_row ty x y ho g cells hx hy t old hg hi hold h1 h)

set_option maxRecDepth 100000 in
set_option maxHeartbeats 400000 in
theorem new_any (w : World) : Calls Try.prog 28 #[] w fun e w' => e = .returned (.agg nl.cells) ∧ Below w.heap.size w w' := by
  have hz := (zero_of_info Try.zLand).1
  go_enter Try.func28, Try.ntmps28
  go_wp2_with fail
  refine (newRooms_any _).mono ?_
  rintro e w1 ⟨rfl, hb1⟩
  have c1 : Cod w1 w.heap.size zl := (cod_new w zl).behind hb1 (Nat.le_refl _)
  have l1 : Below w.heap.size w w1 := ((Below.refl w.heap.size w).alloc (Nat.le_refl _) _).trans (hb1.mono (by simp))
  clear hb1
  go_wp2_with fail
  refine (newThings_any _).mono ?_
  rintro e w2 ⟨rfl, hb2⟩
  have c2 : Cod w2 w.heap.size zl := c1.behind hb2 (Nat.le_refl _)
  have l2 : Below w.heap.size w w2 := l1.trans (hb2.mono l1.size)
  clear hb2 c1 l1
  go_wp2_with fail
  refine (newBeings_any _).mono ?_
  rintro e w3 ⟨rfl, hb3⟩
  have c3 : Cod w3 w.heap.size zl := c2.behind hb3 (Nat.le_refl _)
  have l3 : Below w.heap.size w w3 := l2.trans (hb3.mono l2.size)
  clear hb3 c2 l2
  go_wp2_with (first | (refine wl_build 49 #[(0, .tmp 1), (1, .tmp 2), (2, .tmp 3)] rfl ?hh _ _ bl ?hv ?_) | (refine wl_row 49 (.tmp 0) (.tmp 4) rfl rfl w.heap.size nl.cells rfl rfl 49 zl.cells c3 ?s1 ?s2 one_land ?_))
  case s1 => rw [Ld.size]; exact (zero_of_info Try.zLand).2
  case s2 => rw [Ld.size, Ld.size]
  refine bodyPost_ret (v := .agg nl.cells) (results_cell_row rfl _ _ w.heap.size 49 nl.cells (0, 0) _ rfl (setRow_heap w3 w.heap.size _ _ _ _ c3) Try.underlying49 rfl (by rw [Ld.size]; exact (zero_of_info Try.zLand).2)) rfl ⟨rfl, below_setRow l3 (Nat.le_refl _) _⟩

set_option maxHeartbeats 400000 in
theorem opposite_one (w : World) : Calls Try.prog 29 #[.int .i64 1] w fun e w' => e = .returned (.int .i64 4) ∧ w' = w := by
  have hix : ∀ w, (Instr.index 37 (.agg #[.int .i64 3, .int .i64 4, .int .i64 5, .int .i64 0, .int .i64 1, .int .i64 2]) (.int .i64 1)).run Try.prog w = .ok (.int .i64 4) w := fun _ => by kernel_rfl
  go_enter Try.func29, Try.ntmps29
  go_wp2
  go_ret
  exact ⟨rfl, rfl⟩
end Go.Proofs.Ytponfhjplpfjkac
