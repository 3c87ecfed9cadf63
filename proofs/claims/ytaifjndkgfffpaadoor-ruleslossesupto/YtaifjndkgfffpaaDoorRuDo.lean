/-
  Do: its contract, by what act does.
-/
import Derived.Test.YtaifjndkgfffpaaDoorMgBL
namespace Go.Proofs.YtaifjndkgfffpaaDoor
open Go.RowKit
set_option linter.unusedVariables false

/-- What the last region's loads read: the land, and the row. -/
structure Hr (g : Nat) (L : Ld) (v : Value) (W : World) : Prop where
  land : W.rangeAt g 0 L.cells.toList
  row : W.cell? ⟨g, 165, none⟩ = some v

theorem sn_start (L : Ld) (w0 : World) : Sn 62 [] w0 L [] (w0.alloc (.cells (L.more [] (.slice none 0 0)) 62)) :=
  ⟨⟨_, heap_alloc_new w0 _, World.ownsRow_nil _ _ _ _⟩, below_box w0 _⟩
theorem Ld.more_one (L : Ld) : (L.more [] (.slice none 0 0)).all (·.oneCell') = true := by
  unfold Ld.more
  rw [Array.all_append, land_one]; simp [Value.oneCell']
theorem Tryd.sizeScene : (Tryd.prog.info? 62).map (·.size) = some 166 := by kernel_rfl
theorem setRow_off (w : World) (k j : Nat) (cs : Array Value) (h : j ≠ k) : (w.setRow k cs).heap[j]? = w.heap[j]? := by
  unfold World.setRow
  simp only [Array.getElem?_modify]
  rw [if_neg (fun e => h e.symm)]
theorem Hr.setRow {g k : Nat} {L : Ld} {v : Value} {W : World} (h : Hr g L v W) (hk : g ≠ k) {cs : Array Value} : Hr g L v (W.setRow k cs) := by
  have e := setRow_off W k g cs hk
  exact ⟨fun j x hx => by rw [← h.land j x hx]; simp only [World.cell?, e], by rw [← h.row]; simp only [World.cell?, e]⟩
theorem own_setRow {w : World} {base base' n k : Nat} {v : Value} {xs : List Value} {cs : Array Value} (h : w.ownsRow base 52 16 v n xs) (hb : base' ≤ base ∧ k < base) : (w.setRow k cs).ownsRow base' 52 16 v n xs := by
  refine ⟨h.1, ?_⟩
  rcases h.2 with hn | ⟨g, cap, cur, rfl, h1, h2, h3⟩
  · exact .inl hn
  · exact .inr ⟨g, cap, cur, rfl, by omega, by rw [setRow_off _ _ _ _ (by omega)]; exact h2, h3⟩
theorem exec_storeland {a : Act} {op : Oper} {w : World} (x y : Operand) (ho : op.op = .store 34 x y) {k : Nat} {L : Ld} {old : Array Value} (hx : a.eval x = .pointer (some ⟨k, 0, none⟩)) (hy : a.eval y = .agg L.cells)
    (hg : w.heap[k]? = some (.cells old 34 (0, 0))) (hs : old.size = 165) : (execOp a.eval op).run Tryd.prog w = .ok .skip (w.setRow k L.cells) := by
  have := run_storeVar_row (P := Tryd.prog) w k 34 34 old L.cells hg (by rw [L.size]; exact Tryd.sizeLand) (by rw [hs, L.size]) (land_one L)
  unfold execOp
  simp only [ho, hx, hy, Instr.storeAt, Instr.sureAddr, Sem.run_bind, Sem.run_pure, Result.andThen_ok, this]

set_option maxRecDepth 100000 in
set_option maxHeartbeats 4000000 in
theorem do_any (L L' : Ld) (Fs : List Ev) (b : Nat) (O : Od) (w : World) (hvb : Vb w) (hwf : Wf L) (hg : goodL L = true) (hb : b < 6) (hh : L.here b = true) (hv0 : 0 ≤ O.verb) (hv1 : O.verb ≤ 20)
    (hact : ∀ w0 w, Vb w0 → Sn 62 [] w0 L [] w → Calls Tryd.prog 32 #[.pointer (some ⟨w0.heap.size, 0, none⟩), .int .i64 (b : Int), .agg O.cells] w fun e w' => e = .returned (.tuple #[]) ∧ Sn 62 [] w0 L' Fs w' ∧ Stp w0.heap.size 165 w w') :
    Calls Tryd.prog 17 #[.agg L.cells, .int .i64 (b : Int), .agg O.cells] w fun e w' => ∃ v, e = .returned (.tuple #[.agg L'.cells, v, .int .i64 0]) ∧ w'.ownsRow w.heap.size 52 16 v Fs.length (evc Fs) ∧ Below w.heap.size w w' := by
  have hz := (zero_of_info Tryd.zLand).1
  have HA := hide hact
  have HVB := hide hvb
  have hbi : (b : Int) < 6 := by omega
  clear hact hvb
  have C0 := hide (((cod_new w L).alloc (.cells O.cells 47)).alloc (.cells zl.cells 34))
  have O0 := hide (show (((w.alloc (.cells L.cells 34)).alloc (.cells O.cells 47)).alloc (.cells zl.cells 34)).heap[w.heap.size + 1]? = some (.cells O.cells 47 (0, 0)) by
    rw [Below.heap_alloc _ _ _ (by simp)]
    have := heap_alloc_new (w.alloc (.cells L.cells 34)) (.cells O.cells 47)
    rw [World.size_alloc] at this; exact this)
  have R0 := hide (show (((w.alloc (.cells L.cells 34)).alloc (.cells O.cells 47)).alloc (.cells zl.cells 34)).heap[w.heap.size + 2]? = some (.cells zl.cells 34 (0, 0)) by
    have := heap_alloc_new ((w.alloc (.cells L.cells 34)).alloc (.cells O.cells 47)) (.cells zl.cells 34)
    rw [World.size_alloc, World.size_alloc] at this; exact this)
  have B0 := hide (((below_box w (.cells L.cells 34)).alloc (by simp) (.cells O.cells 47)).alloc (by simp; omega) (.cells zl.cells 34))
  go_enter Tryd.func17, Tryd.ntmps17
  go_wp2_with (refine wl_land (.tmp 3) rfl rfl _ L rfl C0.out ?_)
  refine (good_any L _ hwf).mono ?_
  rintro e w1 ⟨rfl, hb1⟩
  have C1 := hide (C0.out.behind hb1 (Nat.le_refl _))
  have O1 := hide (show w1.heap[w.heap.size + 1]? = some (.cells O.cells 47 (0, 0)) by rw [hb1.block _ (by simp)]; exact O0.out)
  have R1 := hide (show w1.heap[w.heap.size + 2]? = some (.cells zl.cells 34 (0, 0)) by rw [hb1.block _ (by simp)]; exact R0.out)
  have B1 := hide (B0.out.trans (hb1.mono (by simp; omega)))
  have ch : w1.cell? ⟨w.heap.size, 129 + b * 6 + 1, none⟩ = some (.bool true) := by rw [C1.out.being b 1 hb (by omega)]; simp [Ld.beingCell, hh]
  have cv : w1.cell? ⟨w.heap.size + 1, 0, none⟩ = some (.int .i64 O.verb) := by rw [cell_of_row _ _ _ _ _ _ O1.out]; rfl
  rw [hg]
  clear hb1 C0 O0 R0 B0 hg hh
  go_wp2_with (first | (refine wl_land (.tmp 3) rfl rfl _ L rfl C1.out ?_) | (refine wl_build 62 #[(0, .tmp 41)] rfl ?hh _ _ (built_scene L) ?hv ?_) | (refine wl_wanted rfl (wp_load_row 47 (.tmp 5) rfl (w.heap.size + 1) rfl 47 O.cells (0, 0) _ (by rw [Below.heap_alloc _ _ _ ((Array.getElem?_eq_some_iff.1 O1.out).1)]; exact O1.out) Tryd.underlying47 rfl Tryd.sizeOrder ?_)))
  refine (HA.out w1 _ (HVB.out.below B1.out (Nat.le_refl _)) (sn_start L w1)).mono ?_
  rintro e w2 ⟨rfl, S2, T2⟩
  obtain ⟨v, hv, ho⟩ := S2.ex
  obtain ⟨av, cap, rfl⟩ := shapeE ho
  have hlt1 : w.heap.size + 2 < w1.heap.size := (Array.getElem?_eq_some_iff.1 R1.out).1
  have HR : Hr w1.heap.size L' (.slice av Fs.length cap) w2.drew := ⟨S2.land, by
    show w2.cell? _ = _
    rw [cell_of_row _ _ _ _ _ _ hv]; exact more_row L' [] _⟩
  have RR : w2.drew.heap[w.heap.size + 1 + 1]? = some (.cells zl.cells 34 (0, 0)) := by
    show w2.heap[w.heap.size + 1 + 1]? = _
    rw [S2.low.block _ (by omega)]; exact R1.out
  have OW : w2.drew.ownsRow (w1.heap.size + 1) 52 16 (.slice av Fs.length cap) Fs.length (evc Fs) := ho
  have BB : Below w.heap.size w w2.drew := (B1.out.trans (S2.low.mono B1.out.size)).drew
  have hne : w1.heap.size ≠ w.heap.size + 1 + 1 := by omega
  clear S2 T2 hv ho ch cv C1 O1 R1 B1 HA
  go_wp2_with fail
  refine wp_region_held (S := Hr w1.heap.size L' (.slice av Fs.length cap)) (by kernel_rfl) ?_
  change wpAnyH _ _ _ _ _ _ _ _ w2.drew
  generalize w2.drew = W0 at *
  refine take_at (i := 0) (d := some 48) (fuel := 10) (v := ?_) rfl rfl (by kernel_rfl) (by kernel_rfl) (by kernel_rfl) (fun _ _ _ h => h) (Or.inl ⟨by rfl, ?_⟩) HR ?_
  rotate_left
  · intro W hW
    have hc := hW.row
    go_simp
    try with_reducible rfl
  simp only [Act.put, List.setIfInBounds_toArray, List.set]
  refine take_at (i := 1) (d := some 49) (fuel := 9) (v := ?_) rfl rfl (by kernel_rfl) (by kernel_rfl) (by kernel_rfl) (fun _ _ _ h => h) (Or.inl ⟨by rfl, ?_⟩) HR ?_
  rotate_left
  · intro W hW
    have hc := hW.row
    go_simp
    try with_reducible rfl
  simp only [Act.put, List.setIfInBounds_toArray, List.set]
  refine take_at (i := 2) (d := some 50) (fuel := 8) (v := ?_) rfl rfl (by kernel_rfl) (by kernel_rfl) (by kernel_rfl) (fun _ _ _ h => h) (Or.inl ⟨by rfl, ?_⟩) HR ?_
  rotate_left
  · intro W hW
    have hc := hW.row
    go_simp
    try with_reducible rfl
  simp only [Act.put, List.setIfInBounds_toArray, List.set]
  refine take_at (i := 3) (d := some 51) (fuel := 7) (v := .agg L'.cells) rfl rfl (by kernel_rfl) (by kernel_rfl) (by kernel_rfl) (fun _ _ _ h => h) (Or.inl ⟨by rfl, fun W hW => exec_land' (.tmp 50) rfl rfl hW.land⟩) HR ?_
  simp only [Act.put, List.setIfInBounds_toArray, List.set]
  refine take_at (i := 4) (d := some 52) (fuel := 6) (v := ?_) rfl rfl (by kernel_rfl) (by kernel_rfl) (by kernel_rfl) (fun _ _ _ h => h) (Or.inl ⟨by rfl, ?_⟩) HR ?_
  rotate_left
  · intro W hW
    have hc := hW.row
    go_simp
    try with_reducible rfl
  simp only [Act.put, List.setIfInBounds_toArray, List.set]
  refine take_at (i := 5) (d := some 53) (fuel := 5) (v := ?_) rfl rfl (by kernel_rfl) (by kernel_rfl) (by kernel_rfl) (fun _ _ _ h => h) (Or.inl ⟨by rfl, ?_⟩) HR ?_
  rotate_left
  · intro W hW
    have hc := hW.row
    go_simp
    try with_reducible rfl
  simp only [Act.put, List.setIfInBounds_toArray, List.set]
  refine take_at (i := 6) (d := some 54) (fuel := 4) (v := ?_) rfl rfl (by kernel_rfl) (by kernel_rfl) (by kernel_rfl) (fun _ _ _ h => h) (Or.inl ⟨by rfl, ?_⟩) HR ?_
  rotate_left
  · intro W hW
    have hc := hW.row
    go_simp
    try with_reducible rfl
  simp only [Act.put, List.setIfInBounds_toArray, List.set]
  refine take_at (i := 7) (d := some 55) (fuel := 3) (v := ?_) rfl rfl (by kernel_rfl) (by kernel_rfl) (by kernel_rfl) (fun _ _ _ h => h) (Or.inl ⟨by rfl, ?_⟩) HR ?_
  rotate_left
  · intro W hW
    have hc := hW.row
    go_simp
    try with_reducible rfl
  simp only [Act.put, List.setIfInBounds_toArray, List.set]
  refine wpAnyH_all (fuel := 2) (rs := [8]) (by kernel_rfl) (by simp) ?_
  intro i hi
  obtain rfl : i = 8 := by simpa using hi
  clear hi
  refine skip_at (d := none) rfl rfl (by rfl) (exec_storeland (.tmp 6) (.tmp 51) rfl (k := (w.heap.size + 1 + 1)) (L := L') (old := zl.cells) rfl rfl RR zl.size) ?_
  have HR2 := HR.setRow hne (cs := L'.cells)
  refine ⟨HR2, ?_⟩
  simp only [Act.put]
  refine take_at (i := 9) (d := some 7) (fuel := 1) (v := ?_) rfl rfl (by kernel_rfl) (by kernel_rfl) (by kernel_rfl) (fun _ _ _ h => h) (Or.inl ⟨by rfl, ?_⟩) HR2 ?_
  rotate_left
  · intro W hW
    go_simp
    try with_reducible rfl
  simp only [Act.put, List.setIfInBounds_toArray, List.set]
  refine take_at (i := 10) (d := some 8) (fuel := 0) (v := ?_) rfl rfl (by kernel_rfl) (by kernel_rfl) (by kernel_rfl) (fun _ _ _ h => h) (Or.inl ⟨by rfl, ?_⟩) HR2 ?_
  rotate_left
  · intro W hW
    go_simp
    try with_reducible rfl
  simp only [Act.put, List.setIfInBounds_toArray, List.set]
  refine wpAnyH_done (by kernel_rfl) ?_ _
  go_wp2
  refine bodyPost_ret (v := .tuple #[.agg L'.cells, .slice av Fs.length cap, .int .i64 0]) (res_land rfl _ _ (w.heap.size + 1 + 1) L' _ _ rfl rfl rfl (setRow_heap _ _ _ _ _ _ RR)) rfl ⟨_, rfl, own_setRow OW ⟨by omega, by omega⟩, below_setRow BB (by omega) _⟩
end Go.Proofs.YtaifjndkgfffpaaDoor
