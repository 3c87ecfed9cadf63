/-
  acts of the law: its contract; lands held against each other.
-/
import Derived.Test.YtaifjndkgfffpaaDoorRuActs
import Derived.Test.YtaifjndkgfffpaaDoorMgK
namespace Go.Proofs.YtaifjndkgfffpaaDoor
open Go.RowKit
set_option linter.unusedVariables false

theorem wl_eqlandF {ops : Array Oper} {rest : List Oper} {op : Oper} {a : Act} {w : World} {Q : Exit → Act → World → Prop} (x y : Operand) (t : TypeId) (ho : op.op = .binOp .eql 34 x y t) (hw : Region.wanted op (yielded ops a.tmps) = true) (L : Ld)
    (hx : a.eval x = .agg L.cells) (hy : a.eval y = .agg L.cells) (h : wpList Tryd.prog ops Q rest (a.put op.dst (.bool true)) w) : wpList Tryd.prog ops Q (op :: rest) a w := by
  refine wl_wanted hw ?_
  unfold Oper.wp
  rw [exec_eqland x y t ho hx hy]
  exact h

set_option maxRecDepth 100000 in
set_option maxHeartbeats 4000000 in
theorem lacts_any (w : World) (hv : Vb w) : Calls Tryd.prog 14 #[] w fun e w' => e = .returned (.bool true) ∧ Below w.heap.size w w' := by
  have hz := (zero_of_info Tryd.zLand).1
  go_enter Tryd.func14, Tryd.ntmps14
  go_wp2_with fail
  refine (new_any _).mono ?_
  rintro e w1 ⟨rfl, hb1⟩
  have B1 := hide hb1
  have HV := hide (hv.below hb1 (Nat.le_refl _))
  clear hb1 hv
  go_wp2_with fail
  refine (do_any nl (getL nl 0 mugO) (getE nl 0 mugO) 0 mugO _ HV.out wf_nl good_nl (by omega) nl_here (by decide) (by decide) (fun w0 w _ hS => act_get hS 0 (by omega) mugO rfl rfl (by decide) (by decide) (by simp))).mono ?_
  rintro e w2 ⟨v, rfl, ho, hb2⟩
  have B2 := hide (B1.out.trans (hb2.mono B1.out.size))
  obtain ⟨g, cap, rfl, hbg, hc⟩ := event_of ho 0 (by rw [mug_len]; omega)
  have hglt := (ho.lt g rfl).2
  have hk0 : w2.cell? ⟨g, 0, none⟩ = some (.int .i64 3) := by
    have := hc 0 (by omega)
    simp only [Nat.zero_mul, Nat.zero_add] at this
    rw [this]
    exact (show (getE nl 0 mugO)[0].cells[0]? = some (.int .i64 (getE nl 0 mugO)[0].kind) from rfl).trans (by rw [mug_first])
  rw [mug_len]
  clear ho hb2 hc hbg
  generalize hL : getL nl 0 mugO = M at *
  have hon : M.wh 6 = 1 := by rw [← hL]; exact mug_on
  have cm := (cod_new w2 M).thing 6 2 (by omega) (by omega)
  simp only [Ld.thingCell, hon] at cm
  have HL := hide hL
  have HB := hide (B2.out.alloc B2.out.size (.cells M.cells 34))
  clear hL hon
  go_wp2_with (refine wl_new 34 (.tmp 1) (.tmp 8) rfl rfl _ _ rfl rfl rfl (by rw [M.size]; exact Tryd.sizeLand) (by rw [M.size, zl.size]) (land_one M) ?_)
  go_ret
  exact ⟨rfl, HB.out⟩
end Go.Proofs.YtaifjndkgfffpaaDoor
