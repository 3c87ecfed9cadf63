/-
  What acts asks of the given land's mug; an event of a row: plain facts.
-/
import Derived.Test.YtaifjndkgfffpaaGreatDoorMgG
import Derived.Test.YtaifjndkgfffpaaGreatDoorMgF
import Derived.Test.YtaifjndkgfffpaaGreatDoorMgK
import Derived.Test.YtaifjndkgfffpaaGreatDoorMgN
import Derived.Test.YtaifjndkgfffpaaGreatDoorMgD
namespace Go.Proofs.YtaifjndkgfffpaaGreatDoor
open Go.RowKit
set_option linter.unusedVariables false
def mugO : Od := { verb := 7, nth := 1, all := false, name := ⟨#[109, 117, 103]⟩, second := ⟨#[]⟩, text := ⟨#[]⟩ }
theorem mug_len : (getE nl 0 mugO).length = 1 := by kernel_rfl
theorem mug_kind : ((getE nl 0 mugO).map (·.kind)) = [3] := by kernel_rfl
theorem mug_on : (getL nl 0 mugO).wh 6 = 1 := by kernel_rfl
theorem mug_first (h : 0 < (getE nl 0 mugO).length) : (getE nl 0 mugO)[0].kind = 3 := by
  have h2 : ((getE nl 0 mugO).map (·.kind))[0]? = some 3 := by rw [mug_kind]; rfl
  rw [List.getElem?_map, List.getElem?_eq_getElem h] at h2
  simpa using h2
theorem nl_here : nl.here 0 = true := by kernel_rfl

theorem event_of {w : World} {base : Nat} {v : Value} {Fs : List Ev} (h : w.ownsRow base 62 16 v Fs.length (evc Fs)) (k : Nat) (hk : k < Fs.length) : ∃ g cap, v = .slice (some ⟨g, 0, none⟩) Fs.length cap ∧ base ≤ g ∧ ∀ j, j < 16 → w.cell? ⟨g, k * 16 + j, none⟩ = Fs[k].cells[j]? := by
  rcases h.2 with ⟨rfl, h0⟩ | ⟨g, cap, cur, rfl, h1, h2, h3, h4, h5, h6⟩
  · omega
  · refine ⟨g, cap, rfl, h1, fun j hj => ?_⟩
    rw [cell_of_row w g _ _ _ _ h2]
    have hl : k * 16 + j < Fs.length * 16 := by omega
    have e1 : cur[k * 16 + j]? = (evc Fs)[k * 16 + j]? := by
      rw [← h6, List.getElem?_take, if_pos hl, Array.getElem?_toList]
    rw [e1]
    have key : ∀ (Gs : List Ev) (k : Nat) (hk : k < Gs.length), (evc Gs)[k * 16 + j]? = Gs[k].cells[j]? := by
      intro Gs
      induction Gs with
      | nil => intro k hk; simp at hk
      | cons E Gs ih =>
        intro k hk
        have hsz : E.cells.toList.length = 16 := by rw [Array.length_toList, Ev.size]
        show (E.cells.toList ++ evc Gs)[k * 16 + j]? = _
        cases k with
        | zero => rw [List.getElem?_append_left (by omega)]; simp
        | succ k =>
          rw [List.getElem?_append_right (by omega), hsz, show (k + 1) * 16 + j - 16 = k * 16 + j by omega]
          exact ih k (by simpa using hk)
    exact key Fs k hk
/-
  acts of the law: its contract; lands held against each other.
-/
theorem wl_eqlandF {ops : Array Oper} {rest : List Oper} {op : Oper} {a : Act} {w : World} {Q : Exit → Act → World → Prop} (x y : Operand) (t : TypeId) (ho : op.op = .binOp .eql 34 x y t) (hw : Region.wanted op (yielded ops a.tmps) = true) (L : Ld)
    (hx : a.eval x = .agg L.cells) (hy : a.eval y = .agg L.cells) (h : wpList Tryz.prog ops Q rest (a.put op.dst (.bool true)) w) : wpList Tryz.prog ops Q (op :: rest) a w := by
  refine wl_wanted hw ?_
  unfold Oper.wp
  rw [exec_eqland x y t ho hx hy]
  exact h

set_option maxRecDepth 100000 in
set_option maxHeartbeats 4000000 in
theorem lacts_any (w : World) (hv : Vb w) : Calls Tryz.prog 7 #[] w fun e w' => e = .returned (.bool true) ∧ Below w.heap.size w w' := by
  have hz := (zero_of_info Tryz.zLand).1
  go_enter Tryz.func7, Tryz.ntmps7
  go_wp2_with fail
  refine (new_any _).mono ?_
  rintro e w1 ⟨rfl, hb1⟩
  have B1 := hide hb1
  have HV := hide (hv.below hb1 (Nat.le_refl _))
  clear hb1 hv
  go_wp2_with fail
  refine (do_any nl (getL nl 0 mugO) (getE nl 0 mugO) 0 mugO _ HV.out wf_nl good_nl (by omega) nl_here (by decide) (by decide) (fun w0 w _ hS => act_get hS 0 (by omega) mugO rfl rfl (by decide) (by decide) (by simp))).mono ?_
  rintro e w2 ⟨v, rfl, ho, hb2⟩
  have B2 := hide (B1.out.trans (hb2.mono B1.out.size))
  obtain ⟨g, cap, rfl, hbg, hc⟩ := event_of ho 0 (by rw [mug_len]; omega)
  have hglt := (ho.lt g rfl).2
  have hk0 : w2.cell? ⟨g, 0, none⟩ = some (.int .i64 3) := by
    have := hc 0 (by omega)
    simp only [Nat.zero_mul, Nat.zero_add] at this
    rw [this]
    exact (show (getE nl 0 mugO)[0].cells[0]? = some (.int .i64 (getE nl 0 mugO)[0].kind) from rfl).trans (by rw [mug_first])
  rw [mug_len]
  clear ho hb2 hc hbg
  generalize hL : getL nl 0 mugO = M at *
  have hon : M.wh 6 = 1 := by rw [← hL]; exact mug_on
  have cm := (cod_new w2 M).thing 6 2 (by omega) (by omega)
  simp only [Ld.thingCell, hon] at cm
  have HL := hide hL
  have HB := hide (B2.out.alloc B2.out.size (.cells M.cells 34))
  clear hL hon
  go_wp2_with (refine wl_new 34 (.tmp 1) (.tmp 8) rfl rfl _ _ rfl rfl rfl (by rw [M.size]; exact Tryz.sizeLand) (by rw [M.size, zl.size]) (land_one M) ?_)
  go_ret
  exact ⟨rfl, HB.out⟩
/-
  The document's own comparing of two rows of events that are alike: the contract.
-/
theorem event_at {w : World} {base : Nat} {v : Value} {Fs : List Ev} (h : w.ownsRow base 62 16 v Fs.length (evc Fs)) {k : Nat} {E : Ev} (hE : Fs[k]? = some E) : ∃ g cap, v = .slice (some ⟨g, 0, none⟩) Fs.length cap ∧ w.rangeAt g (k * 16) E.cells.toList := by
  obtain ⟨hk, e⟩ := List.getElem?_eq_some_iff.1 hE
  obtain ⟨g, cap, rfl, hb, hc⟩ := event_of h k hk
  refine ⟨g, cap, rfl, fun j x hx => ?_⟩
  have hj : j < 16 := by
    have := (List.getElem?_eq_some_iff.1 hx).1; rw [Array.length_toList, Ev.size] at this; exact this
  rw [hc j hj, e, ← hx, Array.getElem?_toList]
theorem exec_evmid {a : Act} {op : Oper} {w : World} (x : Operand) (ho : op.op = .load 62 x) (g o : Nat) {E : Ev} (hx : a.eval x = .pointer (some ⟨g, o, none⟩)) (hc : w.rangeAt g o E.cells.toList) : (execOp a.eval op).run Tryz.prog w = .ok (.value (.agg E.cells)) w := by
  have := run_loadVar_mid (P := Tryz.prog) w g o 62 E.cells.toList _ hc Tryz.underlying62 rfl Tryz.sizeEvent
  rw [Array.toArray_toList] at this
  unfold execOp
  simp only [ho, hx, Instr.loadAt, Instr.sureAddr, Sem.run_bind, Sem.run_pure, Result.andThen_ok, this]
theorem exec_neqev {a : Act} {op : Oper} {w : World} (x y : Operand) (t : TypeId) (ho : op.op = .binOp .neq 62 x y t) {E : Ev} (hx : a.eval x = .agg E.cells) (hy : a.eval y = .agg E.cells) : (execOp a.eval op).run Tryz.prog w = .ok (.value (.bool false)) w := by
  have hg2 : (eqGuard .neq 62 x y (.agg E.cells) (.agg E.cells)).run Tryz.prog w = .ok () w := by
    have hg := Tryz.guardEvent
    simp [eqGuard, hg]
  have he2 : (binOp .neq 62 (.agg E.cells) (.agg E.cells)).run Tryz.prog w = .ok (.bool false) w := by
    simp [binOp, Op.equal, Op.maxDepth, eqEvent E w]
  unfold execOp
  simp only [ho, hx, hy, Sem.run_bind, hg2, he2, Result.andThen_ok, Sem.run_pure]

set_option maxRecDepth 100000 in
set_option maxHeartbeats 2000000 in
theorem same_any {w : World} {Fs : List Ev} {v1 v2 : Value} {b1 b2 : Nat} (h1 : w.ownsRow b1 62 16 v1 Fs.length (evc Fs)) (h2 : w.ownsRow b2 62 16 v2 Fs.length (evc Fs)) (hlen : Fs.length ≤ 1000000) :
    Calls Tryz.prog 6 #[v1, v2] w fun e w' => e = .returned (.bool true) ∧ ∃ n, w' = w.drewN n := by
  obtain ⟨a1, c1, e1⟩ := shapeE h1
  obtain ⟨a2, c2, e2⟩ := shapeE h2
  subst e1 e2
  have H1 := hide h1
  have H2 := hide h2
  clear h1 h2
  generalize hn : Fs.length = n at *
  have HN := hide hn
  clear hn
  go_enter Tryz.func6, Tryz.ntmps6
  go_wp2_with fail
  go_loopw [13] (fun c wr => ∃ k : Nat, k ≤ n ∧ c = .int .i64 k ∧ ∃ m, wr = w.drewN m) (fun c _ => n - (intOf c).toNat)
  case atStart => exact ⟨0, by omega, rfl, 0, rfl⟩
  case round =>
    obtain ⟨k, hle, rfl, m, rfl⟩ := hrel
    by_cases hk : k < n
    · obtain ⟨E, hE⟩ : ∃ E, Fs[k]? = some E := ⟨Fs[k]'(by rw [HN.out]; exact hk), List.getElem?_eq_getElem (by rw [HN.out]; exact hk)⟩
      obtain ⟨g1, d1, x1, r1⟩ := event_at (by rw [HN.out]; exact H1.out) hE
      obtain ⟨g2, d2, x2, r2⟩ := event_at (by rw [HN.out]; exact H2.out) hE
      injection x1 with x1 x1' x1''
      injection x2 with x2 x2' x2''
      subst x1 x1'' x2 x2''
      have HS : (w.drewN (m + 1)).rangeAt g1 (k * 16) E.cells.toList ∧ (w.drewN (m + 1)).rangeAt g2 (k * 16) E.cells.toList := ⟨r1, r2⟩
      have hki : (k : Int) < (n : Int) := by omega
      clear hE x1' x2' r1 r2
      go_wp2_with fail
      refine wp_region_held (S := fun W => W.rangeAt g1 (k * 16) E.cells.toList ∧ W.rangeAt g2 (k * 16) E.cells.toList) (by kernel_rfl) ?_
      refine tw (i := 0) (d := some 16) (fuel := 8) (v := ?_) rfl rfl ?_ HS ?_
      rotate_left
      · intro W hW; go_simp; try with_reducible rfl
      simp only [Act.put, sT, List.set]
      refine tw (i := 1) (d := some 17) (fuel := 7) (v := ?_) rfl rfl ?_ HS ?_
      rotate_left
      · intro W hW; go_simp; try with_reducible rfl
      simp only [Act.put, sT, List.set]
      refine tw (i := 2) (d := some 18) (fuel := 6) (v := ?_) rfl rfl ?_ HS ?_
      rotate_left
      · intro W hW; go_simp; try with_reducible rfl
      simp only [Act.put, sT, List.set]
      refine tk (i := 3) (d := some 19) (fuel := 5) (v := .agg E.cells) rfl rfl (Or.inl ⟨by rfl, fun W hW => exec_evmid (.tmp 18) rfl _ _ rfl hW.1⟩) HS ?_
      simp only [Act.put, sT, List.set]
      refine tw (i := 4) (d := some 20) (fuel := 4) (v := ?_) rfl rfl ?_ HS ?_
      rotate_left
      · intro W hW; go_simp; try with_reducible rfl
      simp only [Act.put, sT, List.set]
      refine tw (i := 5) (d := some 21) (fuel := 3) (v := ?_) rfl rfl ?_ HS ?_
      rotate_left
      · intro W hW; go_simp; try with_reducible rfl
      simp only [Act.put, sT, List.set]
      refine tw (i := 6) (d := some 22) (fuel := 2) (v := ?_) rfl rfl ?_ HS ?_
      rotate_left
      · intro W hW; go_simp; try with_reducible rfl
      simp only [Act.put, sT, List.set]
      refine tk (i := 7) (d := some 23) (fuel := 1) (v := .agg E.cells) rfl rfl (Or.inl ⟨by rfl, fun W hW => exec_evmid (.tmp 22) rfl _ _ rfl hW.2⟩) HS ?_
      simp only [Act.put, sT, List.set]
      refine tk (i := 8) (d := some 24) (fuel := 0) (v := .bool false) rfl rfl (Or.inl ⟨by rfl, fun W hW => exec_neqev (.tmp 19) (.tmp 23) 62 rfl rfl rfl⟩) HS ?_
      simp only [Act.put, sT, List.set]
      refine wpAnyH_done (by kernel_rfl) ?_ _
      go_wp2
      go_roundw
      case rel => exact ⟨k + 1, by omega, by go_num, m + 1, rfl⟩
      case measure => simp [intOf]; omega
    · have hkn : k = n := by omega
      subst hkn
      go_wp2
      go_ret
      exact ⟨rfl, _, rfl⟩
end Go.Proofs.YtaifjndkgfffpaaGreatDoor
