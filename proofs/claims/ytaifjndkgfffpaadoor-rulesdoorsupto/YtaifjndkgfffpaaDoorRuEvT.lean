/-
  An event of a being, and with another one; what is told: contracts.
-/
import Derived.Test.YtaifjndkgfffpaaDoorRuHap
namespace Go.Proofs.YtaifjndkgfffpaaDoor
open Go.RowKit
set_option linter.unusedVariables false

set_option maxRecDepth 100000 in
set_option maxHeartbeats 1000000 in
theorem revent_any {w0 : World} {L : Ld} {Es : List Ev} {w : World} (hS : Sn 62 [] w0 L Es w) (kind : Int) (b : Nat) (hb : b < 6) :
    Calls Tryd.prog 42 #[.pointer (some ⟨w0.heap.size, 0, none⟩), .int .i64 kind, .int .i64 (b : Int)] w fun e w' => e = .returned (.agg (evN L kind b).cells) ∧ Below w.heap.size w w' := by
  have c0 := hS.being b 0 hb (by omega)
  have c3 := hS.being b 3 hb (by omega)
  have hl := hS.lt
  simp only [Nat.add_zero, Ld.beingCell] at c0 c3
  clear hS
  go_enter Tryd.func42, Tryd.ntmps42
  go_wp2_with fail
  go_region
  go_wp2
  refine bodyPost_ret (v := .agg (evN L kind b).cells) (results_cell_row rfl _ _ w.heap.size 52 (evN L kind b).cells (0, 0) _ rfl (heap_alloc_new w _) Tryd.underlying52 rfl (by rw [Ev.size]; exact Tryd.sizeEvent)) rfl ⟨rfl, ((Below.refl _ _).alloc (Nat.le_refl _) _).drew⟩
theorem revent_lit {w0 : World} {L : Ld} {Es : List Ev} {w : World} (hS : Sn 62 [] w0 L Es w) (kind : Int) (b : Nat) (hb : b < 6) :
    Calls Tryd.prog 42 #[.pointer (some ⟨w0.heap.size, 0, none⟩), .int .i64 kind, .int .i64 (b : Int)] w fun e w' => e = .returned (.agg #[.int .i64 kind, .int .i64 (L.room b), .int .i64 (b : Int), .int .i64 (-1), .int .i64 0, .int .i64 0, .string (L.bname b), .string ⟨#[]⟩, .string ⟨#[]⟩, .string ⟨#[]⟩, .int .i64 0, .int .i64 0, .int .i64 0, .int .i64 0, .int .i64 0, .int .i64 0]) ∧ Below w.heap.size w w' := revent_any hS kind b hb

set_option maxRecDepth 100000 in
set_option maxHeartbeats 1000000 in
theorem rtell_any {w0 : World} {L : Ld} {Es : List Ev} {w : World} (hS : Sn 62 [] w0 L Es w) (b : Nat) (hb : b < 6) (text : ByteArray) (hlen : Es.length ≤ 1000000) :
    Calls Tryd.prog 66 #[.pointer (some ⟨w0.heap.size, 0, none⟩), .int .i64 (b : Int), .string text] w fun e w' => e = .returned (.tuple #[]) ∧ Sn 62 [] w0 L (Es ++ [tellE L b text]) w' ∧ Stp w0.heap.size 165 w w' := by
  go_enter Tryd.func66, Tryd.ntmps66
  go_wp2_with fail
  refine (revent_lit hS 16 b hb).mono ?_
  rintro e w1 ⟨rfl, hb1⟩
  have S1 := hide (hS.below hb1)
  have T1 := hide (hS.stp hb1 165)
  clear hS hb1
  go_wp2_with (first | (refine wl_new 52 (.tmp 6) (.tmp 9) rfl rfl _ _ rfl rfl rfl Tryd.sizeEvent rfl (by simp [Value.oneCell']) ?_) | (refine wl_event (.tmp 6) rfl rfl _ { evN L 16 b with text := text } rfl (heap_alloc_new w1 _) ?_))
  refine (happens_any (S1.out.alloc _) { evN L 16 b with text := text } hlen).mono ?_
  rintro e w2 ⟨rfl, S2, T2⟩
  have A := hide S2
  have B := hide (T1.out.trans ((S1.out.stp (below_box w1 _) 165).trans T2))
  clear S2 T2 S1 T1
  go_wp2
  go_end0
  exact ⟨rfl, A.out, B.out⟩

set_option maxRecDepth 100000 in
set_option maxHeartbeats 2000000 in
theorem rwith_any {w0 : World} {L : Ld} {Es : List Ev} {w : World} (hS : Sn 62 [] w0 L Es w) (kind : Int) (b c : Nat) (hb : b < 6) (hc : c < 6) :
    Calls Tryd.prog 55 #[.pointer (some ⟨w0.heap.size, 0, none⟩), .int .i64 kind, .int .i64 (b : Int), .int .i64 (c : Int)] w fun e w' => e = .returned (.agg (evW L kind b c).cells) ∧ Below w.heap.size w w' := by
  go_enter Tryd.func55, Tryd.ntmps55
  go_wp2_with fail
  refine (revent_lit (hS.alloc _) kind b hb).mono ?_
  rintro e w1 ⟨rfl, hb1⟩
  have S1 := (hS.alloc (.cells zeroEv.cells 52)).below hb1
  have hg1 : w1.heap[w.heap.size]? = some (.cells zeroEv.cells 52 (0, 0)) := by
    rw [hb1.block _ (by simp)]; exact heap_alloc_new w _
  have L1 := hide ((below_box w (.cells zeroEv.cells 52)).trans (hb1.mono (by simp)))
  have c0 := S1.being c 0 hc (by omega)
  have hl := S1.lt
  have hl2 : w.heap.size < w1.heap.size := (Array.getElem?_eq_some_iff.1 hg1).1
  have HG := hide hg1
  have hci : (c : Int) < 6 := by omega
  simp only [Nat.add_zero, Ld.beingCell] at c0
  clear hS hb1 S1 hg1
  go_wp2_with (refine wl_new 52 (.tmp 9) (.tmp 13) rfl rfl _ _ rfl rfl rfl Tryd.sizeEvent rfl (by simp [Value.oneCell']) ?_)
  simp only [Act.put]
  go_region
  have HG2 : Hid ((w1.alloc (.cells (evW L kind b c).cells 52)).drew.heap[w.heap.size]? = some (.cells zeroEv.cells 52 (0, 0))) := by
    show (w1.alloc _).heap[w.heap.size]? = _
    rw [Below.heap_alloc _ _ _ hl2]; exact HG.out
  have HE : Hid (Cev (w1.alloc (.cells (evW L kind b c).cells 52)).drew w1.heap.size (evW L kind b c)) := heap_alloc_new w1 _
  have LL : Hid (Below w.heap.size w (w1.alloc (.cells (evW L kind b c).cells 52)).drew) := (L1.out.alloc L1.out.size _).drew
  go_wp2_with (first | (refine wl_event (.tmp 9) rfl rfl _ (evW L kind b c) rfl HE.out ?_) | (refine wl_row 52 (.tmp 8) (.tmp 25) rfl rfl w.heap.size (evW L kind b c).cells rfl rfl 52 zeroEv.cells HG2.out ?s1 ?s2 (Ev.one _) ?_))
  case s1 => rw [Ev.size]; exact Tryd.sizeEvent
  case s2 => rfl
  refine bodyPost_ret (v := .agg (evW L kind b c).cells) (results_cell_row rfl _ _ w.heap.size 52 (evW L kind b c).cells (0, 0) _ rfl (setRow_heap _ w.heap.size _ _ _ _ HG2.out) Tryd.underlying52 rfl (by rw [Ev.size]; exact Tryd.sizeEvent)) rfl ⟨rfl, below_setRow LL.out (Nat.le_refl _) _⟩
end Go.Proofs.YtaifjndkgfffpaaDoor
