/-
  The document's own comparing of two rows of events that are alike: the contract.
-/
import Derived.Test.YtaifjndkgfffpaaDoorMgN
import Derived.Test.YtaifjndkgfffpaaDoorMgD
import Derived.Test.YtaifjndkgfffpaaDoorRuActs
namespace Go.Proofs.YtaifjndkgfffpaaDoor
open Go.RowKit
set_option linter.unusedVariables false

theorem event_at {w : World} {base : Nat} {v : Value} {Fs : List Ev} (h : w.ownsRow base 52 16 v Fs.length (evc Fs)) {k : Nat} {E : Ev} (hE : Fs[k]? = some E) : ∃ g cap, v = .slice (some ⟨g, 0, none⟩) Fs.length cap ∧ w.rangeAt g (k * 16) E.cells.toList := by
  obtain ⟨hk, e⟩ := List.getElem?_eq_some_iff.1 hE
  obtain ⟨g, cap, rfl, hb, hc⟩ := event_of h k hk
  refine ⟨g, cap, rfl, fun j x hx => ?_⟩
  have hj : j < 16 := by
    have := (List.getElem?_eq_some_iff.1 hx).1; rw [Array.length_toList, Ev.size] at this; exact this
  rw [hc j hj, e, ← hx, Array.getElem?_toList]
theorem exec_evmid {a : Act} {op : Oper} {w : World} (x : Operand) (ho : op.op = .load 52 x) (g o : Nat) {E : Ev} (hx : a.eval x = .pointer (some ⟨g, o, none⟩)) (hc : w.rangeAt g o E.cells.toList) : (execOp a.eval op).run Tryd.prog w = .ok (.value (.agg E.cells)) w := by
  have := run_loadVar_mid (P := Tryd.prog) w g o 52 E.cells.toList _ hc Tryd.underlying52 rfl Tryd.sizeEvent
  rw [Array.toArray_toList] at this
  unfold execOp
  simp only [ho, hx, Instr.loadAt, Instr.sureAddr, Sem.run_bind, Sem.run_pure, Result.andThen_ok, this]
theorem exec_neqev {a : Act} {op : Oper} {w : World} (x y : Operand) (t : TypeId) (ho : op.op = .binOp .neq 52 x y t) {E : Ev} (hx : a.eval x = .agg E.cells) (hy : a.eval y = .agg E.cells) : (execOp a.eval op).run Tryd.prog w = .ok (.value (.bool false)) w := by
  have hg2 : (eqGuard .neq 52 x y (.agg E.cells) (.agg E.cells)).run Tryd.prog w = .ok () w := by
    have hg := Tryd.guardEvent
    simp [eqGuard, hg]
  have he2 : (binOp .neq 52 (.agg E.cells) (.agg E.cells)).run Tryd.prog w = .ok (.bool false) w := by
    simp [binOp, Op.equal, Op.maxDepth, eqEvent E w]
  unfold execOp
  simp only [ho, hx, hy, Sem.run_bind, hg2, he2, Result.andThen_ok, Sem.run_pure]

set_option maxRecDepth 100000 in
set_option maxHeartbeats 2000000 in
theorem same_any {w : World} {Fs : List Ev} {v1 v2 : Value} {b1 b2 : Nat} (h1 : w.ownsRow b1 52 16 v1 Fs.length (evc Fs)) (h2 : w.ownsRow b2 52 16 v2 Fs.length (evc Fs)) (hlen : Fs.length ≤ 1000000) :
    Calls Tryd.prog 11 #[v1, v2] w fun e w' => e = .returned (.bool true) ∧ ∃ n, w' = w.drewN n := by
  obtain ⟨a1, c1, e1⟩ := shapeE h1
  obtain ⟨a2, c2, e2⟩ := shapeE h2
  subst e1 e2
  have H1 := hide h1
  have H2 := hide h2
  clear h1 h2
  generalize hn : Fs.length = n at *
  have HN := hide hn
  clear hn
  go_enter Tryd.func11, Tryd.ntmps11
  go_wp2_with fail
  go_loopw [13] (fun c wr => ∃ k : Nat, k ≤ n ∧ c = .int .i64 k ∧ ∃ m, wr = w.drewN m) (fun c _ => n - (intOf c).toNat)
  case atStart => exact ⟨0, by omega, rfl, 0, rfl⟩
  case round =>
    obtain ⟨k, hle, rfl, m, rfl⟩ := hrel
    by_cases hk : k < n
    · obtain ⟨E, hE⟩ : ∃ E, Fs[k]? = some E := ⟨Fs[k]'(by rw [HN.out]; exact hk), List.getElem?_eq_getElem (by rw [HN.out]; exact hk)⟩
      obtain ⟨g1, d1, x1, r1⟩ := event_at (by rw [HN.out]; exact H1.out) hE
      obtain ⟨g2, d2, x2, r2⟩ := event_at (by rw [HN.out]; exact H2.out) hE
      injection x1 with x1 x1' x1''
      injection x2 with x2 x2' x2''
      subst x1 x1'' x2 x2''
      have HS : (w.drewN (m + 1)).rangeAt g1 (k * 16) E.cells.toList ∧ (w.drewN (m + 1)).rangeAt g2 (k * 16) E.cells.toList := ⟨r1, r2⟩
      have hki : (k : Int) < (n : Int) := by omega
      clear hE x1' x2' r1 r2
      go_wp2_with fail
      refine wp_region_held (S := fun W => W.rangeAt g1 (k * 16) E.cells.toList ∧ W.rangeAt g2 (k * 16) E.cells.toList) (by kernel_rfl) ?_
      refine take_at (i := 0) (d := some 16) (fuel := 8) (v := ?_) rfl rfl (by kernel_rfl) (by kernel_rfl) (by kernel_rfl) (fun _ _ _ h => h) (Or.inl ⟨by rfl, ?_⟩) HS ?_
      rotate_left
      · intro W hW
        go_simp
        try with_reducible rfl
      simp only [Act.put, List.setIfInBounds_toArray, List.set]
      refine take_at (i := 1) (d := some 17) (fuel := 7) (v := ?_) rfl rfl (by kernel_rfl) (by kernel_rfl) (by kernel_rfl) (fun _ _ _ h => h) (Or.inl ⟨by rfl, ?_⟩) HS ?_
      rotate_left
      · intro W hW
        go_simp
        try with_reducible rfl
      simp only [Act.put, List.setIfInBounds_toArray, List.set]
      refine take_at (i := 2) (d := some 18) (fuel := 6) (v := ?_) rfl rfl (by kernel_rfl) (by kernel_rfl) (by kernel_rfl) (fun _ _ _ h => h) (Or.inl ⟨by rfl, ?_⟩) HS ?_
      rotate_left
      · intro W hW
        go_simp
        try with_reducible rfl
      simp only [Act.put, List.setIfInBounds_toArray, List.set]
      refine take_at (i := 3) (d := some 19) (fuel := 5) (v := .agg E.cells) rfl rfl (by kernel_rfl) (by kernel_rfl) (by kernel_rfl) (fun _ _ _ h => h) (Or.inl ⟨by rfl, fun W hW => exec_evmid (.tmp 18) rfl _ _ rfl hW.1⟩) HS ?_
      simp only [Act.put, List.setIfInBounds_toArray, List.set]
      refine take_at (i := 4) (d := some 20) (fuel := 4) (v := ?_) rfl rfl (by kernel_rfl) (by kernel_rfl) (by kernel_rfl) (fun _ _ _ h => h) (Or.inl ⟨by rfl, ?_⟩) HS ?_
      rotate_left
      · intro W hW
        go_simp
        try with_reducible rfl
      simp only [Act.put, List.setIfInBounds_toArray, List.set]
      refine take_at (i := 5) (d := some 21) (fuel := 3) (v := ?_) rfl rfl (by kernel_rfl) (by kernel_rfl) (by kernel_rfl) (fun _ _ _ h => h) (Or.inl ⟨by rfl, ?_⟩) HS ?_
      rotate_left
      · intro W hW
        go_simp
        try with_reducible rfl
      simp only [Act.put, List.setIfInBounds_toArray, List.set]
      refine take_at (i := 6) (d := some 22) (fuel := 2) (v := ?_) rfl rfl (by kernel_rfl) (by kernel_rfl) (by kernel_rfl) (fun _ _ _ h => h) (Or.inl ⟨by rfl, ?_⟩) HS ?_
      rotate_left
      · intro W hW
        go_simp
        try with_reducible rfl
      simp only [Act.put, List.setIfInBounds_toArray, List.set]
      refine take_at (i := 7) (d := some 23) (fuel := 1) (v := .agg E.cells) rfl rfl (by kernel_rfl) (by kernel_rfl) (by kernel_rfl) (fun _ _ _ h => h) (Or.inl ⟨by rfl, fun W hW => exec_evmid (.tmp 22) rfl _ _ rfl hW.2⟩) HS ?_
      simp only [Act.put, List.setIfInBounds_toArray, List.set]
      refine take_at (i := 8) (d := some 24) (fuel := 0) (v := .bool false) rfl rfl (by kernel_rfl) (by kernel_rfl) (by kernel_rfl) (fun _ _ _ h => h) (Or.inl ⟨by rfl, fun W hW => exec_neqev (.tmp 19) (.tmp 23) 52 rfl rfl rfl⟩) HS ?_
      simp only [Act.put, List.setIfInBounds_toArray, List.set]
      refine wpAnyH_done (by kernel_rfl) ?_ _
      go_wp2
      go_roundw
      case rel => exact ⟨k + 1, by omega, by go_num, m + 1, rfl⟩
      case measure => simp [intOf]; omega
    · have hkn : k = n := by omega
      subst hkn
      go_wp2
      go_ret
      exact ⟨rfl, _, rfl⟩
end Go.Proofs.YtaifjndkgfffpaaDoor
