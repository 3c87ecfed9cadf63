/-
  An event is laid at the row's end: the contract. Written by a program.
-/
import Derived.Test.YtaifjndkgfffpaaGreatDoorMgD
import Derived.ChangeKeysEq
namespace Go.Proofs.YtaifjndkgfffpaaGreatDoor
open Go.RowKit
set_option linter.unusedVariables false
set_option maxRecDepth 100000 in
set_option maxHeartbeats 2000000 in
theorem happens_any {w0 : World} {L : Ld} {Es : List Ev} {w : World} (hS : Sn 47 [] w0 L Es w) (E : Ev) (hlen : Es.length ≤ 1000000) :
    Calls Tryz.prog 35 #[.pointer (some ⟨w0.heap.size, 0, none⟩), .agg E.cells] w fun e w' => e = .returned (.tuple #[]) ∧ Sn 47 [] w0 L (Es ++ [allE L E]) w' ∧ Stp w0.heap.size 165 w w' := by
  obtain ⟨v, HQ, hv⟩ := hq_start hS E
  obtain ⟨av, cap, rfl⟩ := shapeE HQ.own
  go_enter Tryz.func35, Tryz.ntmps35
  go_wp2_with fail
  refine wp_region_held (S := Hp w0.heap.size L w.heap.size E) (by kernel_rfl) ?_
  change wpAnyH _ _ _ _ _ _ _ _ (w.alloc (.cells E.cells 62)).drew
  generalize (w.alloc (.cells E.cells 62)).drew = W0 at HQ ⊢
  refine tw (i := 0) (d := some 4) (fuel := 15) (v := ?_) rfl rfl ?_ HQ.hp ?_
  rotate_left
  · intro W hW; go_simp; try with_reducible rfl
  simp only [Act.put, sT, List.set]
  refine tw (i := 1) (d := some 5) (fuel := 14) (v := ?_) rfl rfl ?_ HQ.hp ?_
  rotate_left
  · intro W hW; go_simp; try with_reducible rfl
  simp only [Act.put, sT, List.set]
  refine tw (i := 2) (d := some 6) (fuel := 13) (v := ?_) rfl rfl ?_ HQ.hp ?_
  rotate_left
  · intro W hW; go_simp; try with_reducible rfl
  simp only [Act.put, sT, List.set]
  refine tw (i := 3) (d := some 7) (fuel := 12) (v := ?_) rfl rfl ?_ HQ.hp ?_
  rotate_left
  · intro W hW; go_simp; try with_reducible rfl
  simp only [Act.put, sT, List.set]
  refine tw (i := 5) (d := some 9) (fuel := 11) (v := ?_) rfl rfl ?_ HQ.hp ?_
  rotate_left
  · intro W hW; go_simp; try with_reducible rfl
  simp only [Act.put, sT, List.set]
  refine tw (i := 6) (d := some 10) (fuel := 10) (v := ?_) rfl rfl ?_ HQ.hp ?_
  rotate_left
  · intro W hW; go_simp; try with_reducible rfl
  simp only [Act.put, sT, List.set]
  refine tw (i := 7) (d := some 11) (fuel := 9) (v := ?_) rfl rfl ?_ HQ.hp ?_
  rotate_left
  · intro W hW; go_simp; try with_reducible rfl
  simp only [Act.put, sT, List.set]
  refine tk (i := 8) (d := some 12) (fuel := 8) (v := .agg L.cells) rfl rfl (Or.inl ⟨by rfl, fun W hW => exec_land' (.tmp 11) rfl rfl hW.land⟩) HQ.hp ?_
  simp only [Act.put, sT, List.set]
  refine tk (i := 9) (d := some 13) (fuel := 7) (v := .agg E.cells) rfl rfl (Or.inl ⟨by rfl, fun W hW => exec_event (.tmp 3) rfl _ rfl hW.cev⟩) HQ.hp ?_
  simp only [Act.put, sT, List.set]
  refine wpAnyH_all (fuel := 6) (rs := [4, 10]) (by kernel_rfl) (by simp) ?_
  intro i hi
  have hi2 : i = 4 ∨ i = 10 := by simpa using hi
  clear hi
  rcases hi2 with rfl | rfl
  · refine run_at (d := some 8) (v := .slice av Es.length cap) (w' := W0) rfl rfl (by rfl) ?_ ?_
    · have hc := HQ.row
      revert hc
      generalize W0 = W
      intro hc
      simp only [List.length_nil, Nat.add_zero] at hc
      go_simp
      try with_reducible rfl
    refine ⟨HQ.hp, ?_⟩
    simp only [Act.put, sT, List.set]
    refine wpAnyH_all (fuel := 5) (rs := [10]) (by kernel_rfl) (by simp) ?_
    intro i hi
    obtain rfl : i = 10 := by simpa using hi
    clear hi
    refine call_at (d := some 14) rfl rfl (by rfl) 74 #[.agg L.cells, .agg E.cells] (by kernel_rfl) ?_
    refine (all_any L E _).mono ?_
    rintro e x1 ⟨rfl, hb⟩
    have H1 := HQ.call hb
    clear hb
    refine ⟨_, rfl, H1.hp, ?_⟩
    simp only [Act.put, sT, List.set]
    refine wpAnyH_all (fuel := 4) (rs := [11]) (by kernel_rfl) (by simp) ?_
    intro i hi
    obtain rfl : i = 11 := by simpa using hi
    clear hi
    refine run_at (d := some 15) rfl rfl (by rfl) (exec_row (.tmp 14) rfl (E := allE L E) rfl) ?_
    have H2 := H1.call (below_box x1 (.cells (allE L E).cells 62))
    refine ⟨H2.hp, ?_⟩
    simp only [Act.put, sT, List.set]
    refine wpAnyH_all (fuel := 3) (rs := [12]) (by kernel_rfl) (by simp) ?_
    intro i hi
    obtain rfl : i = 12 := by simpa using hi
    clear hi
    obtain ⟨u, y1, hr, o1, o2, o3⟩ := exec_append (w := x1.alloc (.cells (allE L E).cells 62)) 37 (base := w0.heap.size + 1) (E := allE L E) H2.own (heap_alloc_new x1 _) hlen (by have := H2.sn.lt; omega)
    refine run_at (d := some 16) rfl rfl (by rfl) (hr _ _ (.tmp 8) (.tmp 15) rfl rfl rfl rfl) ?_
    have G := H2.grown hv o2
    refine ⟨G.1, ?_⟩
    simp only [Act.put, sT, List.set]
    refine tw (i := 13) (d := some 17) (fuel := 2) (v := ?_) rfl rfl ?_ G.1 ?_
    rotate_left
    · intro W hW; go_simp; try with_reducible rfl
    simp only [Act.put, sT, List.set]
    refine tw (i := 14) (d := some 18) (fuel := 1) (v := ?_) rfl rfl ?_ G.1 ?_
    rotate_left
    · intro W hW; go_simp; try with_reducible rfl
    simp only [Act.put, sT, List.set]
    refine wpAnyH_all (fuel := 0) (rs := [15]) (by kernel_rfl) (by simp) ?_
    intro i hi
    obtain rfl : i = 15 := by simpa using hi
    clear hi
    obtain ⟨av', cap', rfl⟩ := shapeE o1
    refine skip_at (d := none) (w' := y1.setCell ⟨w0.heap.size, 165 + ([] : List Value).length, none⟩ (.slice av' (Es.length + 1) cap')) rfl rfl (by rfl) ?_ ?_
    · have hc : y1.cell? ⟨w0.heap.size, 165 + ([] : List Value).length, none⟩ = some (.slice av Es.length cap) := by rw [cell_of_row _ _ _ _ _ _ G.2, more_row]
      have hf : y1.frozen? ⟨w0.heap.size, 165 + ([] : List Value).length, none⟩ = false := by simp only [World.frozen?, G.2]; simp
      simp only [List.length_nil, Nat.add_zero] at hc hf
      go_simp
      try with_reducible rfl
    have hk : w.heap.size ≠ w0.heap.size := by have := hS.lt; omega
    refine ⟨G.1.put (by omega) hk _, ?_⟩
    simp only [Act.put]
    have A := Sn.append H2.sn H2.blk o1 H2.own o2 o3
    have A2 := (Stp.below H2.bel hS.lt).trans A.2
    refine wpAnyH_done (by kernel_rfl) ?_ _
    go_end0
    exact ⟨rfl, A.1, A2⟩
  · refine call_at (d := some 14) rfl rfl (by rfl) 74 #[.agg L.cells, .agg E.cells] (by kernel_rfl) ?_
    refine (all_any L E _).mono ?_
    rintro e x1 ⟨rfl, hb⟩
    have H1 := HQ.call hb
    clear hb
    refine ⟨_, rfl, H1.hp, ?_⟩
    simp only [Act.put, sT, List.set]
    refine wpAnyH_all (fuel := 5) (rs := [4, 11]) (by kernel_rfl) (by simp) ?_
    intro i hi
    have hi2 : i = 4 ∨ i = 11 := by simpa using hi
    clear hi
    rcases hi2 with rfl | rfl
    · refine run_at (d := some 8) (v := .slice av Es.length cap) (w' := x1) rfl rfl (by rfl) ?_ ?_
      · have hc := H1.row
        revert hc
        generalize x1 = W
        intro hc
        simp only [List.length_nil, Nat.add_zero] at hc
        go_simp
        try with_reducible rfl
      refine ⟨H1.hp, ?_⟩
      simp only [Act.put, sT, List.set]
      refine wpAnyH_all (fuel := 4) (rs := [11]) (by kernel_rfl) (by simp) ?_
      intro i hi
      obtain rfl : i = 11 := by simpa using hi
      clear hi
      refine run_at (d := some 15) rfl rfl (by rfl) (exec_row (.tmp 14) rfl (E := allE L E) rfl) ?_
      have H2 := H1.call (below_box x1 (.cells (allE L E).cells 62))
      refine ⟨H2.hp, ?_⟩
      simp only [Act.put, sT, List.set]
      refine wpAnyH_all (fuel := 3) (rs := [12]) (by kernel_rfl) (by simp) ?_
      intro i hi
      obtain rfl : i = 12 := by simpa using hi
      clear hi
      obtain ⟨u, y1, hr, o1, o2, o3⟩ := exec_append (w := x1.alloc (.cells (allE L E).cells 62)) 37 (base := w0.heap.size + 1) (E := allE L E) H2.own (heap_alloc_new x1 _) hlen (by have := H2.sn.lt; omega)
      refine run_at (d := some 16) rfl rfl (by rfl) (hr _ _ (.tmp 8) (.tmp 15) rfl rfl rfl rfl) ?_
      have G := H2.grown hv o2
      refine ⟨G.1, ?_⟩
      simp only [Act.put, sT, List.set]
      refine tw (i := 13) (d := some 17) (fuel := 2) (v := ?_) rfl rfl ?_ G.1 ?_
      rotate_left
      · intro W hW; go_simp; try with_reducible rfl
      simp only [Act.put, sT, List.set]
      refine tw (i := 14) (d := some 18) (fuel := 1) (v := ?_) rfl rfl ?_ G.1 ?_
      rotate_left
      · intro W hW; go_simp; try with_reducible rfl
      simp only [Act.put, sT, List.set]
      refine wpAnyH_all (fuel := 0) (rs := [15]) (by kernel_rfl) (by simp) ?_
      intro i hi
      obtain rfl : i = 15 := by simpa using hi
      clear hi
      obtain ⟨av', cap', rfl⟩ := shapeE o1
      refine skip_at (d := none) (w' := y1.setCell ⟨w0.heap.size, 165 + ([] : List Value).length, none⟩ (.slice av' (Es.length + 1) cap')) rfl rfl (by rfl) ?_ ?_
      · have hc : y1.cell? ⟨w0.heap.size, 165 + ([] : List Value).length, none⟩ = some (.slice av Es.length cap) := by rw [cell_of_row _ _ _ _ _ _ G.2, more_row]
        have hf : y1.frozen? ⟨w0.heap.size, 165 + ([] : List Value).length, none⟩ = false := by simp only [World.frozen?, G.2]; simp
        simp only [List.length_nil, Nat.add_zero] at hc hf
        go_simp
        try with_reducible rfl
      have hk : w.heap.size ≠ w0.heap.size := by have := hS.lt; omega
      refine ⟨G.1.put (by omega) hk _, ?_⟩
      simp only [Act.put]
      have A := Sn.append H2.sn H2.blk o1 H2.own o2 o3
      have A2 := (Stp.below H2.bel hS.lt).trans A.2
      refine wpAnyH_done (by kernel_rfl) ?_ _
      go_end0
      exact ⟨rfl, A.1, A2⟩
    · refine run_at (d := some 15) rfl rfl (by rfl) (exec_row (.tmp 14) rfl (E := allE L E) rfl) ?_
      have H2 := H1.call (below_box x1 (.cells (allE L E).cells 62))
      refine ⟨H2.hp, ?_⟩
      simp only [Act.put, sT, List.set]
      refine wpAnyH_all (fuel := 4) (rs := [4]) (by kernel_rfl) (by simp) ?_
      intro i hi
      obtain rfl : i = 4 := by simpa using hi
      clear hi
      refine run_at (d := some 8) (v := .slice av Es.length cap) (w' := (x1.alloc (.cells (allE L E).cells 62))) rfl rfl (by rfl) ?_ ?_
      · have hc := H2.row
        revert hc
        generalize (x1.alloc (.cells (allE L E).cells 62)) = W
        intro hc
        simp only [List.length_nil, Nat.add_zero] at hc
        go_simp
        try with_reducible rfl
      refine ⟨H2.hp, ?_⟩
      simp only [Act.put, sT, List.set]
      refine wpAnyH_all (fuel := 3) (rs := [12]) (by kernel_rfl) (by simp) ?_
      intro i hi
      obtain rfl : i = 12 := by simpa using hi
      clear hi
      obtain ⟨u, y1, hr, o1, o2, o3⟩ := exec_append (w := x1.alloc (.cells (allE L E).cells 62)) 37 (base := w0.heap.size + 1) (E := allE L E) H2.own (heap_alloc_new x1 _) hlen (by have := H2.sn.lt; omega)
      refine run_at (d := some 16) rfl rfl (by rfl) (hr _ _ (.tmp 8) (.tmp 15) rfl rfl rfl rfl) ?_
      have G := H2.grown hv o2
      refine ⟨G.1, ?_⟩
      simp only [Act.put, sT, List.set]
      refine tw (i := 13) (d := some 17) (fuel := 2) (v := ?_) rfl rfl ?_ G.1 ?_
      rotate_left
      · intro W hW; go_simp; try with_reducible rfl
      simp only [Act.put, sT, List.set]
      refine tw (i := 14) (d := some 18) (fuel := 1) (v := ?_) rfl rfl ?_ G.1 ?_
      rotate_left
      · intro W hW; go_simp; try with_reducible rfl
      simp only [Act.put, sT, List.set]
      refine wpAnyH_all (fuel := 0) (rs := [15]) (by kernel_rfl) (by simp) ?_
      intro i hi
      obtain rfl : i = 15 := by simpa using hi
      clear hi
      obtain ⟨av', cap', rfl⟩ := shapeE o1
      refine skip_at (d := none) (w' := y1.setCell ⟨w0.heap.size, 165 + ([] : List Value).length, none⟩ (.slice av' (Es.length + 1) cap')) rfl rfl (by rfl) ?_ ?_
      · have hc : y1.cell? ⟨w0.heap.size, 165 + ([] : List Value).length, none⟩ = some (.slice av Es.length cap) := by rw [cell_of_row _ _ _ _ _ _ G.2, more_row]
        have hf : y1.frozen? ⟨w0.heap.size, 165 + ([] : List Value).length, none⟩ = false := by simp only [World.frozen?, G.2]; simp
        simp only [List.length_nil, Nat.add_zero] at hc hf
        go_simp
        try with_reducible rfl
      have hk : w.heap.size ≠ w0.heap.size := by have := hS.lt; omega
      refine ⟨G.1.put (by omega) hk _, ?_⟩
      simp only [Act.put]
      have A := Sn.append H2.sn H2.blk o1 H2.own o2 o3
      have A2 := (Stp.below H2.bel hS.lt).trans A.2
      refine wpAnyH_done (by kernel_rfl) ?_ _
      go_end0
      exact ⟨rfl, A.1, A2⟩
/-
  An event of a being, and with another one; what is told: contracts.
-/
set_option maxRecDepth 100000 in
set_option maxHeartbeats 1000000 in
theorem revent_any {w0 : World} {L : Ld} {Es : List Ev} {w : World} (hS : Sn 47 [] w0 L Es w) (kind : Int) (b : Nat) (hb : b < 6) :
    Calls Tryz.prog 32 #[.pointer (some ⟨w0.heap.size, 0, none⟩), .int .i64 kind, .int .i64 (b : Int)] w fun e w' => e = .returned (.agg (evN L kind b).cells) ∧ Below w.heap.size w w' := by
  have c0 := hS.being b 0 hb (by omega)
  have c3 := hS.being b 3 hb (by omega)
  have hl := hS.lt
  simp only [Nat.add_zero, Ld.beingCell] at c0 c3
  clear hS
  go_enter Tryz.func32, Tryz.ntmps32
  go_wp2_with fail
  go_region
  go_wp2
  refine bodyPost_ret (v := .agg (evN L kind b).cells) (results_cell_row rfl _ _ w.heap.size 62 (evN L kind b).cells (0, 0) _ rfl (heap_alloc_new w _) Tryz.underlying62 rfl (by rw [Ev.size]; exact Tryz.sizeEvent)) rfl ⟨rfl, ((Below.refl _ _).alloc (Nat.le_refl _) _).drew⟩
theorem revent_lit {w0 : World} {L : Ld} {Es : List Ev} {w : World} (hS : Sn 47 [] w0 L Es w) (kind : Int) (b : Nat) (hb : b < 6) :
    Calls Tryz.prog 32 #[.pointer (some ⟨w0.heap.size, 0, none⟩), .int .i64 kind, .int .i64 (b : Int)] w fun e w' => e = .returned (.agg #[.int .i64 kind, .int .i64 (L.room b), .int .i64 (b : Int), .int .i64 (-1), .int .i64 0, .int .i64 0, .string (L.bname b), .string ⟨#[]⟩, .string ⟨#[]⟩, .string ⟨#[]⟩, .int .i64 0, .int .i64 0, .int .i64 0, .int .i64 0, .int .i64 0, .int .i64 0]) ∧ Below w.heap.size w w' := revent_any hS kind b hb

set_option maxRecDepth 100000 in
set_option maxHeartbeats 1000000 in
theorem rtell_any {w0 : World} {L : Ld} {Es : List Ev} {w : World} (hS : Sn 47 [] w0 L Es w) (b : Nat) (hb : b < 6) (text : ByteArray) (hlen : Es.length ≤ 1000000) :
    Calls Tryz.prog 41 #[.pointer (some ⟨w0.heap.size, 0, none⟩), .int .i64 (b : Int), .string text] w fun e w' => e = .returned (.tuple #[]) ∧ Sn 47 [] w0 L (Es ++ [tellE L b text]) w' ∧ Stp w0.heap.size 165 w w' := by
  go_enter Tryz.func41, Tryz.ntmps41
  go_wp2_with fail
  refine (revent_lit hS 16 b hb).mono ?_
  rintro e w1 ⟨rfl, hb1⟩
  have S1 := hide (hS.below hb1)
  have T1 := hide (hS.stp hb1 165)
  clear hS hb1
  go_wp2_with (first | (refine wl_new 62 (.tmp 6) (.tmp 9) rfl rfl _ _ rfl rfl rfl Tryz.sizeEvent rfl (by simp [Value.oneCell']) ?_) | (refine wl_event (.tmp 6) rfl rfl _ { evN L 16 b with text := text } rfl (heap_alloc_new w1 _) ?_))
  refine (happens_any (S1.out.alloc _) { evN L 16 b with text := text } hlen).mono ?_
  rintro e w2 ⟨rfl, S2, T2⟩
  have A := hide S2
  have B := hide (T1.out.trans ((S1.out.stp (below_box w1 _) 165).trans T2))
  clear S2 T2 S1 T1
  go_wp2
  go_end0
  exact ⟨rfl, A.out, B.out⟩

set_option maxRecDepth 100000 in
set_option maxHeartbeats 2000000 in
theorem rwith_any {w0 : World} {L : Ld} {Es : List Ev} {w : World} (hS : Sn 47 [] w0 L Es w) (kind : Int) (b c : Nat) (hb : b < 6) (hc : c < 6) :
    Calls Tryz.prog 73 #[.pointer (some ⟨w0.heap.size, 0, none⟩), .int .i64 kind, .int .i64 (b : Int), .int .i64 (c : Int)] w fun e w' => e = .returned (.agg (evW L kind b c).cells) ∧ Below w.heap.size w w' := by
  go_enter Tryz.func73, Tryz.ntmps73
  go_wp2_with fail
  refine (revent_lit (hS.alloc _) kind b hb).mono ?_
  rintro e w1 ⟨rfl, hb1⟩
  have S1 := (hS.alloc (.cells zeroEv.cells 62)).below hb1
  have hg1 : w1.heap[w.heap.size]? = some (.cells zeroEv.cells 62 (0, 0)) := by
    rw [hb1.block _ (by simp)]; exact heap_alloc_new w _
  have L1 := hide ((below_box w (.cells zeroEv.cells 62)).trans (hb1.mono (by simp)))
  have c0 := S1.being c 0 hc (by omega)
  have hl := S1.lt
  have hl2 : w.heap.size < w1.heap.size := (Array.getElem?_eq_some_iff.1 hg1).1
  have HG := hide hg1
  have hci : (c : Int) < 6 := by omega
  simp only [Nat.add_zero, Ld.beingCell] at c0
  clear hS hb1 S1 hg1
  go_wp2_with (refine wl_new 62 (.tmp 9) (.tmp 13) rfl rfl _ _ rfl rfl rfl Tryz.sizeEvent rfl (by simp [Value.oneCell']) ?_)
  simp only [Act.put]
  go_region
  have HG2 : Hid ((w1.alloc (.cells (evW L kind b c).cells 62)).drew.heap[w.heap.size]? = some (.cells zeroEv.cells 62 (0, 0))) := by
    show (w1.alloc _).heap[w.heap.size]? = _
    rw [Below.heap_alloc _ _ _ hl2]; exact HG.out
  have HE : Hid (Cev (w1.alloc (.cells (evW L kind b c).cells 62)).drew w1.heap.size (evW L kind b c)) := heap_alloc_new w1 _
  have LL : Hid (Below w.heap.size w (w1.alloc (.cells (evW L kind b c).cells 62)).drew) := (L1.out.alloc L1.out.size _).drew
  go_wp2_with (first | (refine wl_event (.tmp 9) rfl rfl _ (evW L kind b c) rfl HE.out ?_) | (refine wl_row 62 (.tmp 8) (.tmp 25) rfl rfl w.heap.size (evW L kind b c).cells rfl rfl 62 zeroEv.cells HG2.out ?s1 ?s2 (Ev.one _) ?_))
  case s1 => rw [Ev.size]; exact Tryz.sizeEvent
  case s2 => rfl
  refine bodyPost_ret (v := .agg (evW L kind b c).cells) (results_cell_row rfl _ _ w.heap.size 62 (evW L kind b c).cells (0, 0) _ rfl (setRow_heap _ w.heap.size _ _ _ _ HG2.out) Tryz.underlying62 rfl (by rw [Ev.size]; exact Tryz.sizeEvent)) rfl ⟨rfl, below_setRow LL.out (Nat.le_refl _) _⟩
/-
  What is at hand, and in sight; lists and ways as they are told: contracts.
-/
/-- v is a list of numbers that was made behind base. -/
def OwnI (base : Nat) (w : World) (v : Value) (q : List Int) : Prop := w.ownsRow base 3 1 v q.length (icells q)
theorem OwnI.base {B B' : Nat} {w : World} {v : Value} {q : List Int} (h : OwnI B w v q) (hB : B' ≤ B) : OwnI B' w v q := by
  refine ⟨h.1, ?_⟩
  rcases h.2 with hn | ⟨g, cap, cur, rfl, h1, h2⟩
  · exact .inl hn
  · exact .inr ⟨g, cap, cur, rfl, Nat.le_trans hB h1, h2⟩
theorem OwnI.nums {B : Nat} {w : World} {v : Value} {q : List Int} (h : OwnI B w v q) : Nums w v q := nums_own h
theorem OwnI.shape {B : Nat} {w : World} {v : Value} {q : List Int} (h : OwnI B w v q) : ∃ (av : Option Addr) (cap : Nat), v = .slice av q.length cap := own_shapeN h
theorem ownI_nil (B : Nat) (w : World) : OwnI B w (.slice none 0 0) [] := World.ownsRow_nil _ _ _ _
theorem OwnI.below {B : Nat} {w w' : World} {v : Value} {q : List Int} (h : OwnI B w v q) (hb : Below w.heap.size w w') : OwnI B w' v q := by
  refine ⟨h.1, ?_⟩
  rcases h.2 with hn | ⟨g, cap, cur, rfl, h1, h2, h3⟩
  · exact .inl hn
  · exact .inr ⟨g, cap, cur, rfl, h1, by rw [hb.block _ (Array.getElem?_eq_some_iff.1 h2).1]; exact h2, h3⟩
/-- A list of numbers that no step turns. -/
structure NumK (g o : Nat) (w : World) (v : Value) (q : List Int) : Prop where
  nums : Nums w v q
  kept : ∀ b off n c, 0 < q.length → v = .slice (some ⟨b, off, none⟩) n c → Kept g o w b
theorem NumK.step {g o : Nat} {w w' : World} {v : Value} {q : List Int} (h : NumK g o w v q) (hs : Stp g o w w') : NumK g o w' v q := by
  refine ⟨?_, fun b off n c h0 e => (hs.kept (h.kept b off n c h0 e)).1⟩
  obtain ⟨av, cap, rfl, hl, hm, hc⟩ := h.nums
  refine ⟨av, cap, rfl, hl, hm, fun h0 => ?_⟩
  obtain ⟨b, off, rfl, hcell⟩ := hc h0
  refine ⟨b, off, rfl, fun i hi => ?_⟩
  have := (hs.kept (h.kept b off _ _ h0 rfl)).2
  rw [← hcell i hi]
  simp only [World.cell?, this]
theorem numk_own {T : TypeId} {pre : List Value} {w0 w w' : World} {L : Ld} {Es : List Ev} {v : Value} {q : List Int} (hS : Sn T pre w0 L Es w) (hb : Below w.heap.size w w') (ho : OwnI w.heap.size w' v q) : NumK w0.heap.size (165 + pre.length) w' v q := by
  refine ⟨ho.nums, fun b off n c h0 e => ?_⟩
  subst e
  have := ho.lt b rfl
  exact hS.kept hb this.1 this.2
theorem NumK.cell {g o : Nat} {w : World} {v : Value} {q : List Int} (h : NumK g o w v q) {k : Nat} (hk : k < q.length) : ∃ b off cap, v = .slice (some ⟨b, off, none⟩) q.length cap ∧ w.cell? ⟨b, off + k, none⟩ = some (.int .i64 (q.getD k 0)) := by
  obtain ⟨b, off, cap, e, _, _, hc⟩ := h.nums.some (by omega)
  exact ⟨b, off, cap, e, hc k hk⟩
theorem NumK.shape {g o : Nat} {w : World} {v : Value} {q : List Int} (h : NumK g o w v q) : ∃ (av : Option Addr) (cap : Nat), v = .slice av q.length cap := by
  obtain ⟨av, cap, e, _⟩ := h.nums; exact ⟨av, cap, e⟩

set_option maxHeartbeats 1000000 in
theorem rhand_any {w0 : World} {L : Ld} {Es : List Ev} {w : World} (hS : Sn 47 [] w0 L Es w) (b : Nat) :
    Calls Tryz.prog 43 #[.pointer (some ⟨w0.heap.size, 0, none⟩), .int .i64 (b : Int)] w fun e w' => ∃ v, e = .returned v ∧ OwnI w.heap.size w' v (handL L b) ∧ Below w.heap.size w w' := by
  have HS := hide hS
  clear hS
  go_enter Tryz.func43, Tryz.ntmps43
  go_wp2_with (refine wl_scene (.tmp 7) rfl rfl rfl HS.out ?_)
  refine (has_own L 1 (b : Int) _).mono ?_
  rintro e w1 ⟨v, rfl, ho, hb⟩
  have A := hide (OwnI.base (show OwnI _ _ _ _ from ho) (Nat.le_succ _))
  have B := hide hb
  obtain ⟨av, cap, rfl⟩ := own_shapeN ho
  clear ho hb
  go_wp2
  go_ret
  exact ⟨_, rfl, A.out, B.out⟩

set_option maxHeartbeats 1000000 in
theorem sight_any {w0 : World} {L : Ld} {Es : List Ev} {w : World} (hS : Sn 47 [] w0 L Es w) (b : Nat) (hb : b < 6) :
    Calls Tryz.prog 65 #[.pointer (some ⟨w0.heap.size, 0, none⟩), .int .i64 (b : Int)] w fun e w' => ∃ v, e = .returned v ∧ OwnI w.heap.size w' v (sightL L b) ∧ Below w.heap.size w w' := by
  have HS := hide hS
  have c3 := hS.being b 3 hb (by omega)
  simp only [Ld.beingCell] at c3
  clear hS
  go_enter Tryz.func65, Tryz.ntmps65
  go_wp2_with (refine wl_scene (.tmp 16) rfl rfl rfl HS.out ?_)
  refine (bright_any L (L.room b) _).mono ?_
  rintro e w1 ⟨rfl, hb1⟩
  have S1 := hide (HS.out.below hb1)
  have B1 := hide hb1
  clear hb1 c3
  cases hx : brightL L (L.room b) with
  | false =>
    have HV := hide (show sightL L b = [] by unfold sightL; rw [if_neg (by simp [hx])])
    clear hx
    go_wp2
    go_ret
    exact ⟨_, rfl, by rw [HV.out]; exact ownI_nil _ _, B1.out⟩
  | true =>
    have HV := hide (show sightL L b = hasK L 0 (L.room b) 9 by unfold sightL; rw [if_pos hx])
    clear hx
    go_wp2_with (refine wl_scene (.tmp 23) rfl rfl rfl S1.out ?_)
    refine (has_own L 0 (L.room b) _).mono ?_
    rintro e w2 ⟨v, rfl, ho, hb2⟩
    have A := hide (OwnI.base (show OwnI _ _ _ _ from ho) (show w.heap.size ≤ w1.heap.size + 1 by have := B1.out.size; omega))
    have B2 := hide (B1.out.trans (hb2.mono B1.out.size))
    obtain ⟨av, cap, rfl⟩ := own_shapeN ho
    clear ho hb2
    go_wp2
    go_ret
    exact ⟨_, rfl, by rw [HV.out]; exact A.out, B2.out⟩

set_option maxHeartbeats 1000000 in
theorem seesOther_any {w0 : World} {L : Ld} {Es : List Ev} {w : World} (hS : Sn 47 [] w0 L Es w) (b c : Nat) :
    Calls Tryz.prog 66 #[.pointer (some ⟨w0.heap.size, 0, none⟩), .int .i64 (b : Int), .int .i64 (c : Int)] w fun e w' => e = .returned (.bool (seesO L b c)) ∧ Below w.heap.size w w' := by
  have HS := hide hS
  clear hS
  by_cases hc : c = b
  · subst hc
    have HV := hide (show seesO L c c = false by simp [seesO])
    go_enter Tryz.func66, Tryz.ntmps66
    go_wp2
    go_ret
    exact ⟨ret_bool HV.out.symm, Below.refl _ _⟩
  · have hne : ((c : Int) != (b : Int)) = true := by simp; omega
    have HV := hide (show seesO L b c = seesL L (b : Int) (c : Int) by simp [seesO, hc])
    clear hc
    go_enter Tryz.func66, Tryz.ntmps66
    go_wp2_with (refine wl_scene (.tmp 13) rfl rfl rfl HS.out ?_)
    refine (sees_any L (b : Int) (c : Int) _).mono ?_
    rintro e w1 ⟨rfl, hb1⟩
    go_wp2
    go_ret
    exact ⟨ret_bool HV.out.symm, hb1⟩

theorem star_any (s : Bool) (w : World) : Calls Tryz.prog 77 #[.bool s] w fun e w' => e = .returned (.string (starT s)) ∧ w' = w := by
  cases s with
  | true =>
    go_enter Tryz.func77, Tryz.ntmps77
    go_wp2
    go_ret
    exact ⟨rfl, rfl⟩
  | false =>
    go_enter Tryz.func77, Tryz.ntmps77
    go_wp2
    go_ret
    exact ⟨rfl, rfl⟩
/-
  Whether a room is good: its contract.
-/
/-- Exits that lead somewhere or nowhere; what is shut is an exit. -/
def groom (e : Nat → Int) (s : Nat → Bool) : Bool := (List.range 6).all fun d => (if e d = 0 then !s d else amg (e d - 1) 6)

theorem Tryz.info4 : (Tryz.prog.info? 4).map (fun i => (i.zero, i.size, i.bytes)) = some (some (.bool false), 1, 1) := by kernel_rfl
theorem Tryz.sizeBools : (Tryz.prog.info? 23).map (·.size) = some 6 := by kernel_rfl
theorem Tryz.sizeInts : (Tryz.prog.info? 22).map (·.size) = some 6 := by kernel_rfl

theorem part4 (i : Nat) (x : Bool) (xs : Array Value) (h : xs[i]? = some (.bool x)) (w : World) : (part 4 xs i).run Tryz.prog w = .ok (.bool x) w := by
  have ha : (isAgg 4).run Tryz.prog w = .ok false w := by unfold isAgg; rw [Sem.run_bind, run_underlying Tryz.underlying4 w]; rfl
  simp [part, ha, h]
theorem part3 (i : Nat) (x : Int) (xs : Array Value) (h : xs[i]? = some (.int .i64 x)) (w : World) : (part 3 xs i).run Tryz.prog w = .ok (.int .i64 x) w := by
  have ha : (isAgg 3).run Tryz.prog w = .ok false w := by unfold isAgg; rw [Sem.run_bind, run_underlying Tryz.underlying3 w]; rfl
  simp [part, ha, h]

theorem eq_bools (d : Nat) (f g : Nat → Bool) (xs ys : Array Value) (w : World) : ∀ (is : List Nat), (∀ j ∈ is, xs[j]? = some (.bool (f j))) → (∀ j ∈ is, ys[j]? = some (.bool (g j))) →
    (Op.eqItems (d + 1) 4 1 xs ys is).run Tryz.prog w = .ok (is.all fun j => f j == g j) w := by
  intro is
  induction is with
  | nil => intro _ _; simp [Op.eqItems]
  | cons j is ih =>
    intro hx hy
    have ih := ih (fun k hk => hx k (List.mem_cons_of_mem _ hk)) (fun k hk => hy k (List.mem_cons_of_mem _ hk))
    simp only [Op.eqItems, Sem.run_bind, Nat.mul_one, part4 j _ xs (hx j (List.mem_cons_self ..)), part4 j _ ys (hy j (List.mem_cons_self ..)), Result.andThen_ok, run_equalIn_bool _ d 4 _ _ Tryz.underlying4]
    cases hb : (f j == g j)
    · simp [hb]
    · simp [hb, ih]

def bools (f : Nat → Bool) : Array Value := #[.bool (f 0), .bool (f 1), .bool (f 2), .bool (f 3), .bool (f 4), .bool (f 5)]
def ints (f : Nat → Int) : Array Value := #[.int .i64 (f 0), .int .i64 (f 1), .int .i64 (f 2), .int .i64 (f 3), .int .i64 (f 4), .int .i64 (f 5)]
theorem bools_get (f : Nat → Bool) (j : Nat) (hj : j < 6) : (bools f)[j]? = some (.bool (f j)) := by
  match j, hj with
  | 0, _ => rfl
  | 1, _ => rfl
  | 2, _ => rfl
  | 3, _ => rfl
  | 4, _ => rfl
  | 5, _ => rfl
theorem ints_get (f : Nat → Int) (j : Nat) (hj : j < 6) : (ints f)[j]? = some (.int .i64 (f j)) := by
  match j, hj with
  | 0, _ => rfl
  | 1, _ => rfl
  | 2, _ => rfl
  | 3, _ => rfl
  | 4, _ => rfl
  | 5, _ => rfl

theorem eq38 (f g : Nat → Bool) (w : World) : (Op.equalIn 10000 23 (.agg (bools f)) (.agg (bools g))).run Tryz.prog w = .ok ((List.range 6).all fun j => f j == g j) w := by
  obtain ⟨i0, hi, _, _, _⟩ := info_parts Tryz.info4
  rw [run_equalIn_array (P := Tryz.prog) w 9999 _ _ Tryz.underlying23 hi, Tryz.cells4]
  exact eq_bools 9998 f g _ _ w _ (fun j hj => bools_get f j (by simpa using hj)) (fun j hj => bools_get g j (by simpa using hj))

theorem index37 (f : Nat → Int) (k : Nat) (hk : k < 6) (w : World) : (Instr.index 22 (.agg (ints f)) (.int .i64 (k : Int))).run Tryz.prog w = .ok (.int .i64 (f k)) w := by
  have hk' : (k : Int) < ((6 : Nat) : Int) := by omega
  have h0 : (0 : Int) ≤ (k : Int) := by omega
  obtain ⟨i0, hi, _, hs, _⟩ := info_parts Tryz.info3
  have hsz : (sizeOf 3).run Tryz.prog w = .ok 1 w := by simp [sizeOf, typeInfo, hi, hs]
  simp only [Instr.index, asIntOf, Sem.run_bind, Sem.run_pure, Result.andThen_ok, run_underlying Tryz.underlying22, hk', h0, and_self, if_true, hsz, Int.toNat_natCast, Nat.mul_one]
  exact part3 k _ _ (ints_get f k hk) w

/-- The copy of what is shut, as far as exits were looked at. -/
def mayK (e : Nat → Int) (s : Nat → Bool) (k d : Nat) : Bool := if d < k ∧ e d = 0 then false else s d

theorem bools_set (f : Nat → Bool) (k : Nat) (hk : k < 6) : (bools f).setIfInBounds k (.bool false) = bools (fun d => if d = k then false else f d) := by
  match k, hk with
  | 0, _ => rfl
  | 1, _ => rfl
  | 2, _ => rfl
  | 3, _ => rfl
  | 4, _ => rfl
  | 5, _ => rfl

theorem may_zero {e : Nat → Int} {s : Nat → Bool} {k : Nat} (h : e k = 0) : (fun d => if d = k then false else mayK e s k d) = mayK e s (k + 1) := by
  funext d
  unfold mayK
  by_cases hd : d = k
  · subst hd; rw [if_pos rfl, if_pos ⟨by omega, h⟩]
  · rw [if_neg hd]
    by_cases hc : d < k ∧ e d = 0
    · rw [if_pos hc, if_pos ⟨by omega, hc.2⟩]
    · rw [if_neg hc, if_neg (fun h => hc ⟨by omega, h.2⟩)]
theorem may_not {e : Nat → Int} {s : Nat → Bool} {k : Nat} (h : e k ≠ 0) : mayK e s k = mayK e s (k + 1) := by
  funext d
  unfold mayK
  by_cases hc : d < k ∧ e d = 0
  · rw [if_pos hc, if_pos ⟨by omega, hc.2⟩]
  · rw [if_neg hc, if_neg]
    rintro ⟨h1, h2⟩
    rcases Nat.lt_or_ge d k with h3 | h3
    · exact hc ⟨h3, h2⟩
    · exact h (by rw [← show d = k by omega]; exact h2)

theorem groom_end {e : Nat → Int} {s : Nat → Bool} (h : ∀ d, d < 6 → e d = 0 ∨ amg (e d - 1) 6 = true) : groom e s = (List.range 6).all fun j => s j == mayK e s 6 j := by
  unfold groom
  rw [Bool.eq_iff_iff]
  simp only [List.all_eq_true, List.mem_range]
  refine forall_congr' fun d => ?_
  refine forall_congr' fun hd => ?_
  rcases h d hd with h0 | h0
  · rw [if_pos h0]; unfold mayK; rw [if_pos ⟨hd, h0⟩]; cases s d <;> simp
  · have hne : e d ≠ 0 := by intro e0; rw [e0] at h0; simp [amg] at h0
    rw [if_neg hne]; unfold mayK; rw [if_neg (fun h => hne h.2)]; simp [h0]
theorem groom_bad {e : Nat → Int} {s : Nat → Bool} {d : Nat} (hd : d < 6) (h0 : e d ≠ 0) (h : amg (e d - 1) 6 = false) : groom e s = false := by
  unfold groom
  rw [Bool.eq_false_iff]
  intro hall
  have := List.all_eq_true.1 hall d (by simp [hd])
  rw [if_neg h0, h] at this
  simp at this

def rmc (nm : ByteArray) (dk : Bool) (e : Nat → Int) (s : Nat → Bool) : Array Value := #[.string nm, .bool dk, .int .i64 (e 0), .int .i64 (e 1), .int .i64 (e 2), .int .i64 (e 3), .int .i64 (e 4), .int .i64 (e 5),
  .bool (s 0), .bool (s 1), .bool (s 2), .bool (s 3), .bool (s 4), .bool (s 5)]

/-- A round's head. -/
structure GRel (nm : ByteArray) (dk : Bool) (e : Nat → Int) (s : Nat → Bool) (w : World) (k : Nat) (wr : World) : Prop where
  le : k ≤ 6
  room : wr.heap[w.heap.size]? = some (.cells (rmc nm dk e s) 25 (0, 0))
  may : wr.heap[w.heap.size + 1]? = some (.cells (bools (mayK e s k)) 23 (0, 0))
  low : Below w.heap.size w wr
  ok : ∀ d, d < k → e d = 0 ∨ amg (e d - 1) 6 = true

theorem GRel.start {nm : ByteArray} {dk : Bool} {e : Nat → Int} {s : Nat → Bool} {w : World} :
    GRel nm dk e s w 0 ((w.alloc (.cells (rmc nm dk e s) 25)).alloc (.cells (bools s) 23)) := by
  refine ⟨by omega, ?_, ?_, ((Below.refl _ _).alloc (Nat.le_refl _) _).alloc (by simp) _, fun d h => by omega⟩
  · rw [Below.heap_alloc _ _ _ (by simp)]; exact heap_alloc_new w _
  · have := heap_alloc_new (w.alloc (.cells (rmc nm dk e s) 25)) (.cells (bools s) 23)
    rw [World.size_alloc] at this
    have e0 : mayK e s 0 = s := by funext d; unfold mayK; rw [if_neg (fun h => by omega)]
    rw [e0]; exact this

section
variable {nm : ByteArray} {dk : Bool} {e : Nat → Int} {s : Nat → Bool} {w wr : World} {k : Nat}
theorem GRel.zero (h : GRel nm dk e s w k wr) (hk : k < 6) (h0 : e k = 0) : GRel nm dk e s w (k + 1) (wr.setCell ⟨w.heap.size + 1, k, none⟩ (.bool false)) := by
  refine ⟨by omega, ?_, ?_, h.low.setCell (by simp) _, fun d hd => ?_⟩
  · rw [Below.heap_setCell _ _ _ _ (by simp)]; exact h.room
  · rw [heap_setCell_same wr (w.heap.size + 1) k _ _ _ h.may, bools_set _ k hk, may_zero h0]
  · rcases Nat.lt_or_ge d k with h1 | h1
    · exact h.ok d h1
    · rw [show d = k by omega]; exact .inl h0
theorem GRel.more (h : GRel nm dk e s w k wr) (hk : k < 6) (h0 : e k ≠ 0) (ha : amg (e k - 1) 6 = true) : GRel nm dk e s w (k + 1) wr := by
  refine ⟨by omega, h.room, ?_, h.low, fun d hd => ?_⟩
  · rw [← may_not h0]; exact h.may
  · rcases Nat.lt_or_ge d k with h1 | h1
    · exact h.ok d h1
    · rw [show d = k by omega]; exact .inr ha
end

set_option maxRecDepth 100000 in
set_option maxHeartbeats 2000000 in
theorem room_good_any (nm : ByteArray) (dk : Bool) (e : Nat → Int) (s : Nat → Bool) (w : World) (hb : ∀ d, d < 6 → -9223372036854775808 ≤ e d ∧ e d ≤ 9223372036854775807) :
    Calls Tryz.prog 24 #[.agg (rmc nm dk e s)] w fun r w' => r = .returned (.bool (groom e s)) ∧ Below w.heap.size w w' := by
  have HB := hide hb
  clear hb
  have S := hide (GRel.start (nm := nm) (dk := dk) (e := e) (s := s) (w := w))
  unfold rmc
  go_enter Tryz.func24, Tryz.ntmps24
  go_wp2_with (refine wl_new 23 (.tmp 3) (.tmp 7) rfl rfl _ _ rfl rfl rfl Tryz.sizeBools rfl rfl ?_)
  go_loopw [10] (fun c wr => ∃ k : Nat, c = .int .i64 k ∧ GRel nm dk e s w k wr) (fun c _ => 6 - (intOf c).toNat)
  case atStart => exact ⟨0, rfl, S.out⟩
  case round =>
    obtain ⟨k, rfl, R⟩ := hrel
    have hle := R.le
    by_cases hk : k < 6
    · have hix := index37 e k hk
      unfold ints at hix
      by_cases h0 : e k = 0
      · have RN := hide (R.zero hk h0)
        have cm : wr.cell? ⟨w.heap.size + 1, k, none⟩ = some (.bool (mayK e s k k)) := by rw [cell_of_row _ _ _ _ _ _ R.may, bools_get _ k hk]
        have cf : wr.frozen? ⟨w.heap.size + 1, k, none⟩ = false := by simp [World.frozen?, R.may]
        have hb0 : (e k == 0) = true := by simp [h0]
        clear h0 R
        go_wp2
        go_roundw
        case rel => exact ⟨k + 1, by go_num, RN.out⟩
        case measure => simp [intOf]; omega
      · have hb0 : (e k == 0) = false := by simp [h0]
        have H0 := hide h0
        have HR := hide R
        clear R h0
        have HW := hide (amg_wrap (e k) 6 (by omega) (HB.out k hk).1 (HB.out k hk).2)
        go_wp2_with fail
        refine (among_any _ 6 _).mono ?_
        rintro r w1 ⟨rfl, hw⟩
        rw [hw, HW.out]
        clear hw w1
        cases ha : amg (e k - 1) 6 with
        | false =>
          have HG := hide (groom_bad (s := s) hk H0.out ha)
          clear ha
          go_wp2
          go_ret
          exact ⟨ret_bool HG.out.symm, HR.out.low⟩
        | true =>
          have RN := hide (HR.out.more hk H0.out ha)
          clear ha
          go_wp2
          go_roundw
          case rel => exact ⟨k + 1, by go_num, RN.out⟩
          case measure => simp [intOf]; omega
    · have hk6 : k = 6 := by omega
      subst hk6
      have HG := hide (groom_end (s := s) R.ok)
      have hlow := hide R.low
      have q := fun o => cell_of_row wr w.heap.size o _ _ _ R.room
      have q8 : wr.cell? ⟨w.heap.size, 8, none⟩ = some (.bool (s 0)) := q 8
      have q9 : wr.cell? ⟨w.heap.size, 9, none⟩ = some (.bool (s 1)) := q 9
      have q10 : wr.cell? ⟨w.heap.size, 10, none⟩ = some (.bool (s 2)) := q 10
      have q11 : wr.cell? ⟨w.heap.size, 11, none⟩ = some (.bool (s 3)) := q 11
      have q12 : wr.cell? ⟨w.heap.size, 12, none⟩ = some (.bool (s 4)) := q 12
      have q13 : wr.cell? ⟨w.heap.size, 13, none⟩ = some (.bool (s 5)) := q 13
      have m := fun o => cell_of_row wr (w.heap.size + 1) o _ _ _ R.may
      have m0 : wr.cell? ⟨w.heap.size + 1, 0, none⟩ = some (.bool (mayK e s 6 0)) := m 0
      have m1 : wr.cell? ⟨w.heap.size + 1, 1, none⟩ = some (.bool (mayK e s 6 1)) := m 1
      have m2 : wr.cell? ⟨w.heap.size + 1, 2, none⟩ = some (.bool (mayK e s 6 2)) := m 2
      have m3 : wr.cell? ⟨w.heap.size + 1, 3, none⟩ = some (.bool (mayK e s 6 3)) := m 3
      have m4 : wr.cell? ⟨w.heap.size + 1, 4, none⟩ = some (.bool (mayK e s 6 4)) := m 4
      have m5 : wr.cell? ⟨w.heap.size + 1, 5, none⟩ = some (.bool (mayK e s 6 5)) := m 5
      have hq := eq38 s (mayK e s 6)
      unfold bools at hq
      rw [← HG.out] at hq
      clear q m R
      go_wp2
      go_ret
      exact ⟨rfl, hlow.out⟩
/-
  Ways and lists as they are told; what is told to whoever looks: contracts.
-/
theorem ways_size (L : Ld) (r k : Nat) (hk : k ≤ 6) : (waysK L r k).size ≤ k * 10 := by
  induction k with
  | zero => exact Nat.le_refl 0
  | succ k ih =>
    have := ih (by omega)
    simp only [waysK]
    split
    · omega
    · have h1 := star_size (L.shut r k)
      have h2 : (bs (calledI (k : Int))).size ≤ 5 := by
        rw [bs_size, calledI_nat]
        match k, hk with
        | 0, _ | 1, _ | 2, _ | 3, _ | 4, _ | 5, _ => decide
      have h3 : (⟨#[32]⟩ : ByteArray).size = 1 := rfl
      simp only [ByteArray.size_append, h3]
      omega

set_option maxRecDepth 100000 in
set_option maxHeartbeats 1000000 in
theorem ways_any (L : Ld) (r : Nat) (w : World) (hv : Vb w) :
    Calls Tryz.prog 64 #[.agg (L.rcells r)] w fun e w' => e = .returned (.string (waysK L r 6)) ∧ Below w.heap.size w w' := by
  have HV := hide hv
  clear hv
  unfold Ld.rcells
  go_enter Tryz.func64, Tryz.ntmps64
  go_wp2
  go_loopw [3, 8] (fun t c wr => ∃ k : Nat, k ≤ 6 ∧ c = .int .i64 k ∧ t = .string (waysK L r k) ∧ wr.heap[w.heap.size]? = some (.cells (L.rcells r) 25 (0, 0)) ∧ Below w.heap.size w wr) (fun _ c _ => 6 - (intOf c).toNat)
  case atStart => exact ⟨0, by omega, rfl, rfl, heap_alloc_new w _, below_box w _⟩
  case round =>
    obtain ⟨k, hle, rfl, rfl, hg, hlow⟩ := hrel
    have HG := hide hg
    have HL := hide hlow
    clear hg hlow
    by_cases hk : k < 6
    · have hix := index37 (L.exit r) k hk
      unfold ints at hix
      by_cases h0 : L.exit r k = 0
      · have hb0 : (L.exit r k != 0) = false := by simp [h0]
        have HN := hide (show waysK L r (k + 1) = waysK L r k by simp only [waysK]; rw [if_pos h0])
        clear h0
        go_wp2
        go_roundw
        case rel => exact ⟨k + 1, by omega, by go_num, by rw [HN.out], HG.out, HL.out⟩
        case measure => simp [intOf]; omega
      · have hb0 : (L.exit r k != 0) = true := by simp [h0]
        have HN := hide (show waysK L r (k + 1) = waysK L r k ++ (⟨#[32]⟩ ++ bs (calledI (k : Int)) ++ starT (L.shut r k)) by simp only [waysK]; rw [if_neg h0])
        have hcell : wr.cell? ⟨w.heap.size, 8 + k, none⟩ = some (.bool (L.shut r k)) := by
          rw [cell_of_row wr _ _ _ _ _ HG.out, L.rcells_get r _ (by omega)]
          match k, hk with
          | 0, _ | 1, _ | 2, _ | 3, _ | 4, _ | 5, _ => rfl
        have hki : (k : Int) < 6 := by omega
        have hs1 : (waysK L r k).size ≤ 60 := by have := ways_size L r k (by omega); omega
        have hs2 : (bs (calledI (k : Int))).size ≤ 5 := by
          rw [bs_size, calledI_nat]
          match k, hk with
          | 0, _ | 1, _ | 2, _ | 3, _ | 4, _ | 5, _ => decide
        have hs3 := star_size (L.shut r k)
        have hs4 : (⟨#[32]⟩ : ByteArray).size = 1 := rfl
        have VV := hide (HV.out.below HL.out (Nat.le_refl _))
        clear h0
        generalize waysK L r k = A at *
        go_wp2_with fail
        have HL2 := hide HL.out.drew
        have HG2 : Hid (wr.drew.heap[w.heap.size]? = some (.cells (L.rcells r) 25 (0, 0))) := HG.out
        have VD := hide (VV.out.drewN 1)
        go_region_with (first | (go_at_call 85; refine (called_any (k : Int) _ VD.out).mono ?_; rintro e x1 ⟨rfl, hx1⟩; rw [hx1]; clear hx1 x1) | (go_at_call 77; refine (star_any _ _).mono ?_; rintro e x2 ⟨rfl, hx2⟩; rw [hx2]; clear hx2 x2))
        all_goals go_wp2
        all_goals go_roundw
        all_goals first | exact ⟨k + 1, by omega, by go_num, by rw [HN.out], HG2.out, HL2.out⟩ | (simp [intOf]; omega)
    · have hk6 : k = 6 := by omega
      subst hk6
      go_wp2
      go_ret
      exact ⟨rfl, HL.out⟩
/-
  A list of things, as it is told: its contract.
-/
theorem names_size {L : Ld} (hf : Fine L) : ∀ (q : List Int), (∀ x ∈ q, ∃ i : Nat, x = (i : Int) ∧ i < 9) → (namesK L q).size ≤ q.length * 1048578 := by
  intro q
  induction q with
  | nil => intro _; exact Nat.le_refl 0
  | cons a q ih =>
    intro h
    have := ih (fun x hx => h x (List.mem_cons_of_mem _ hx))
    obtain ⟨i, e, hi⟩ := h a (List.mem_cons_self ..)
    have h1 := hf.tname a.toNat (by omega)
    have h2 := star_size (L.on a.toNat)
    have h3 : (⟨#[32]⟩ : ByteArray).size = 1 := rfl
    simp only [namesK, ByteArray.size_append, h3, List.length_cons]
    omega
theorem names_some (L : Ld) {q : List Int} (h : q ≠ []) : (namesK L q).toList.isEmpty = false := by
  cases q with
  | nil => exact absurd rfl h
  | cons a q =>
    rw [Lib.toList_data]
    simp only [namesK]
    simp
theorem take_snoc {q : List Int} {k : Nat} (hk : k < q.length) : q.take (k + 1) = q.take k ++ [q.getD k 0] := by
  rw [List.take_succ_eq_append_getElem hk]; simp [hk]

set_option maxRecDepth 100000 in
set_option maxHeartbeats 1000000 in
theorem listed_any {w0 : World} {L : Ld} {Es : List Ev} {w : World} (hS : Sn 47 [] w0 L Es w) (hf : Fine L) {v : Value} {q : List Int} (hN : NumK w0.heap.size 165 w v q) (hq : ∀ x ∈ q, ∃ i : Nat, x = (i : Int) ∧ i < 9) (hlen : q.length ≤ 18) :
    Calls Tryz.prog 42 #[.pointer (some ⟨w0.heap.size, 0, none⟩), v] w fun e w' => e = .returned (.string (listedT L q)) ∧ Below w.heap.size w w' := by
  have HS := hide hS
  have HN := hide hN
  have HQ := hide hq
  have HF := hide hf
  obtain ⟨av, cap, rfl⟩ := hN.shape
  clear hS hN hq hf
  generalize hn : q.length = n at *
  have HNn := hide hn
  clear hn
  go_enter Tryz.func42, Tryz.ntmps42
  go_wp2
  go_loopw [5, 10] (fun t c wr => ∃ k : Nat, k ≤ n ∧ c = .int .i64 k ∧ t = .string (namesK L (q.take k)) ∧ ∃ m, wr = w.drewN m) (fun _ c _ => n - (intOf c).toNat)
  case atStart => exact ⟨0, by omega, rfl, rfl, 0, rfl⟩
  case round =>
    obtain ⟨k, hle, rfl, rfl, m, rfl⟩ := hrel
    by_cases hk : k < n
    · have hkq : k < q.length := by rw [HNn.out]; exact hk
      obtain ⟨b, off, cap', e, hcell⟩ := HN.out.cell hkq
      rw [HNn.out] at e
      injection e with e1 e2 e3
      subst e1 e3
      obtain ⟨i, ei, hi⟩ := HQ.out _ (getD_mem hkq)
      have HT := hide (show namesK L (q.take (k + 1)) = namesK L (q.take k) ++ (⟨#[32]⟩ ++ L.tname i ++ starT (L.on i)) by rw [take_snoc hkq, names_snoc, ei]; rfl)
      rw [ei] at hcell
      have c0 := HS.out.thing i 0 hi (by omega)
      have c4 := HS.out.thing i 4 hi (by omega)
      simp only [Nat.add_zero, Ld.thingCell] at c0 c4
      have hci : (i : Int) < 9 := by omega
      have hs0 : (namesK L (q.take k)).size ≤ 20000000 := by
        have := names_size HF.out (q.take k) (fun x hx => HQ.out x (List.mem_of_mem_take hx))
        have h2 : (q.take k).length ≤ 18 := by simp; omega
        have : (q.take k).length * 1048578 ≤ 18 * 1048578 := Nat.mul_le_mul_right _ h2
        omega
      have hs1 := HF.out.tname i hi
      have hs2 := star_size (L.on i)
      have hs4 : (⟨#[32]⟩ : ByteArray).size = 1 := rfl
      clear ei
      generalize namesK L (q.take k) = A at *
      go_wp2_with fail
      go_region_with (go_at_call 77; refine (star_any _ _).mono ?_; rintro e x2 ⟨rfl, hx2⟩; rw [hx2]; clear hx2 x2)
      all_goals go_wp2
      all_goals go_roundw
      all_goals first | exact ⟨k + 1, by omega, by go_num, by rw [HT.out], m + 1, rfl⟩ | (simp [intOf]; omega)
    · have hkn : k = n := by omega
      subst hkn
      have hall : q.take k = q := by rw [← HNn.out]; exact List.take_length
      rw [hall]
      have hs0 : (namesK L q).size ≤ 20000000 := by
        have := names_size HF.out q HQ.out
        have : q.length * 1048578 ≤ 18 * 1048578 := Nat.mul_le_mul_right _ (by rw [HNn.out]; exact hlen)
        omega
      by_cases h0 : q = []
      · have HV := hide (show listedT L q = ⟨#[32, 110, 111, 116, 104, 105, 110, 103]⟩ ++ ⟨#[46]⟩ by unfold listedT; rw [if_pos h0]; rfl)
        have he : (namesK L q).toList.isEmpty = true := by subst h0; rw [Lib.toList_data]; rfl
        clear h0 hall
        generalize namesK L q = A at *
        go_wp2
        go_ret
        exact ⟨ret_str HV.out.symm, below_drewN (Below.refl _ _) _⟩
      · have HV := hide (show listedT L q = namesK L q ++ ⟨#[46]⟩ by unfold listedT; rw [if_neg h0]; rfl)
        have he := names_some L h0
        clear h0 hall
        generalize namesK L q = A at *
        go_wp2
        go_ret
        exact ⟨ret_str HV.out.symm, below_drewN (Below.refl _ _) _⟩
/-
  Whoever looks is told so: the contract.
-/
theorem Sn.roomR {T : TypeId} {pre : List Value} {w0 w : World} {L : Ld} {Es : List Ev} (h : Sn T pre w0 L Es w) (k : Nat) (hk : k < 6) : w.rangeAt w0.heap.size (k * 14) (L.rcells k).toList := by
  intro j v hv
  have hj : j < 14 := by
    have := (List.getElem?_eq_some_iff.1 hv).1; simpa [Ld.rcells] using this
  rw [h.room k j hk hj, ← hv]
  have := L.rcells_get k j hj
  simpa using this.symm
theorem wl_sroom {ops : Array Oper} {rest : List Oper} {op : Oper} {a : Act} {w : World} {Q : Exit → Act → World → Prop} (x : Operand) (ho : op.op = .load 25 x) (hw : Region.wanted op (yielded ops a.tmps) = true) {T : TypeId} {pre : List Value} {w0 : World} {L : Ld} {Es : List Ev} (k : Nat)
    (hx : a.eval x = .pointer (some ⟨w0.heap.size, k * 14, none⟩)) (hc : Sn T pre w0 L Es w) (hk : k < 6) (h : wpList Tryz.prog ops Q rest (a.put op.dst (.agg (L.rcells k))) w) : wpList Tryz.prog ops Q (op :: rest) a w :=
  wl_mid 25 x ho hw w0.heap.size (k * 14) (L.rcells k).toList _ hx (hc.roomR k hk) Tryz.underlying25 rfl Tryz.sizeRoom h

set_option maxRecDepth 100000 in
set_option maxHeartbeats 2000000 in
theorem rlook_any {w0 : World} {L : Ld} {Es : List Ev} {w : World} (hS : Sn 47 [] w0 L Es w) (hf : Fine L) (hv : Vb w0) (b : Nat) (hb : b < 6) (hlen : Es.length ≤ 900000) :
    Calls Tryz.prog 29 #[.pointer (some ⟨w0.heap.size, 0, none⟩), .int .i64 (b : Int)] w fun e w' => e = .returned (.tuple #[]) ∧ Sn 47 [] w0 L (Es ++ lookE L b) w' ∧ Stp w0.heap.size 165 w w' := by
  obtain ⟨r, hr, er⟩ := hf.room b hb
  have HS := hide hS
  have c3 := hS.being b 3 hb (by omega)
  simp only [Ld.beingCell] at c3
  rw [er] at c3
  have HF := hide hf
  have HV := hide hv
  have hbi : (b : Int) < 6 := by omega
  have hri : (r : Int) < 6 := by omega
  have HER := hide er
  clear hS hf hv er
  go_enter Tryz.func29, Tryz.ntmps29
  go_wp2_with (refine wl_scene (.tmp 17) rfl rfl rfl HS.out ?_)
  refine (bright_any L (r : Int) _).mono ?_
  rintro e w1 ⟨rfl, hb1⟩
  have S1 := hide (HS.out.below hb1)
  have T1 := hide (HS.out.stp hb1 165)
  clear hb1 c3 HS
  cases hx : brightL L (r : Int) with
  | false =>
    have HE := hide (show lookE L b = [tellE L b darkS] by unfold lookE; rw [HER.out, if_neg (by simp [hx])])
    clear hx
    go_wp2_with fail
    refine (rtell_any S1.out b hb _ (by omega)).mono ?_
    rintro e w2 ⟨rfl, S2, T2⟩
    have A := hide S2
    have B := hide (T1.out.trans T2)
    clear S2 T2
    go_wp2
    exact bodyPost_ret (v := .tuple #[]) (results_none rfl _ _ _) rfl ⟨rfl, by rw [HE.out]; exact A.out, B.out⟩
  | true =>
    have HE := hide (show lookE L b = [tellE L b (theS ++ L.rname r ++ dotT), tellE L b (waysS ++ waysK L r 6)] ++ (if sightL L b = [] then [] else [tellE L b (hereS ++ listedT L (sightL L b))]) ++ othersK L b 6 by
      unfold lookE; rw [HER.out, if_pos hx]; rfl)
    clear hx
    have c0 := S1.out.room r 0 hr (by omega)
    simp only [Nat.add_zero, Ld.roomCell] at c0
    have hs0 := HF.out.rname r hr
    have hs4 : (⟨#[84, 104, 101, 32]⟩ : ByteArray).size = 4 := rfl
    go_wp2_with fail
    refine (rtell_any S1.out b hb _ (by omega)).mono ?_
    rintro e w2 ⟨rfl, S2h, T2h⟩
    have S2 := hide S2h
    have T2 := hide (T1.out.trans T2h)
    clear S2h T2h S1 T1 c0 hs0 hs4
    go_wp2_with (refine wl_sroom (.tmp 45) rfl rfl r rfl S2.out hr ?_)
    refine (ways_any L r _ (HV.out.below S2.out.low (Nat.le_refl _))).mono ?_
    rintro e w3 ⟨rfl, hb3⟩
    have S3 := hide (S2.out.below hb3)
    have T3 := hide (T2.out.trans (S2.out.stp hb3 165))
    clear hb3 S2 T2
    have hs5 := ways_size L r 6 (Nat.le_refl _)
    have hs6 : (⟨#[87, 97, 121, 115, 58]⟩ : ByteArray).size = 5 := rfl
    have HW : Hid (waysK L r 6 = waysK L r 6) := rfl
    generalize hA : waysK L r 6 = A at *
    have HA := hide hA
    clear hA
    go_wp2_with fail
    refine (rtell_any S3.out b hb _ (by simp; omega)).mono ?_
    rintro e w4 ⟨rfl, S4h, T4h⟩
    have S4 := hide S4h
    have T4 := hide (T3.out.trans T4h)
    clear S4h T4h S3 T3 hs5 hs6
    go_wp2_with fail
    refine (sight_any S4.out b hb).mono ?_
    rintro e w5 ⟨v, rfl, ho, hb5⟩
    have S5 := hide (S4.out.below hb5)
    have T5 := hide (T4.out.trans (S4.out.stp hb5 165))
    have N5 := hide (numk_own S4.out hb5 ho)
    obtain ⟨av, cap, rfl⟩ := ho.shape
    clear ho hb5 S4 T4
    by_cases h0 : sightL L b = []
    · have hz : (sightL L b).length = 0 := by rw [h0]; rfl
      have HE2 := hide (show lookE L b = ([tellE L b (theS ++ L.rname r ++ dotT), tellE L b (waysS ++ A)] ++ []) ++ othersK L b 6 by rw [HE.out, if_pos h0])
      rw [hz]
      clear h0 hz HE N5
      have HE := HE2
      clear HE2
      go_wp2_with fail
      go_loopw [63] (fun c wr => ∃ k : Nat, k ≤ 6 ∧ c = .int .i64 k ∧ Sn 47 [] w0 L (((Es ++ [tellE L b (theS ++ L.rname r ++ dotT)]) ++ [tellE L b (waysS ++ A)]) ++ othersK L b k) wr ∧ Stp w0.heap.size 165 w wr) (fun c _ => 6 - (intOf c).toNat)
      case atStart => exact ⟨0, by omega, rfl, by simp only [othersK, List.range_zero, List.filter_nil, List.map_nil, List.append_nil]; exact S5.out, T5.out⟩
      case round =>
        obtain ⟨k, hle, rfl, Rh, Th⟩ := hrel
        have R := hide Rh
        have TT := hide Th
        clear Rh Th S5 T5
        by_cases hk : k < 6
        · have hki : (k : Int) < 6 := by omega
          go_wp2_with fail
          refine (seesOther_any R.out b k).mono ?_
          rintro e wa ⟨rfl, hba⟩
          have R1 := hide (R.out.below hba)
          have T1 := hide (TT.out.trans (R.out.stp hba 165))
          clear hba R TT
          cases hx : seesO L b k with
          | false =>
            have HN := hide (others_no hx)
            clear hx
            go_wp2
            go_roundw
            case rel => exact ⟨k + 1, by omega, by go_num, by rw [HN.out]; exact R1.out, T1.out⟩
            case measure => simp [intOf]; omega
          | true =>
            have HN := hide (others_yes hx)
            clear hx
            have c0 := R1.out.being k 0 hk (by omega)
            simp only [Nat.add_zero, Ld.beingCell] at c0
            have hs0 := HF.out.bname k hk
            have hol := others_len L b k
            go_wp2_with fail
            refine (rtell_any R1.out b hb _ (by simp only [List.length_append, List.length_cons, List.length_nil]; omega)).mono ?_
            rintro e wb ⟨rfl, Sb, Tb⟩
            have R2 := hide Sb
            have T2 := hide (T1.out.trans Tb)
            clear Sb Tb R1 T1 c0 hs0 hol
            go_wp2
            go_roundw
            case rel => exact ⟨k + 1, by omega, by go_num, by rw [HN.out, ← List.append_assoc]; exact R2.out, T2.out⟩
            case measure => simp [intOf]; omega
        · have hk6 : k = 6 := by omega
          subst hk6
          go_wp2
          go_end0
          exact ⟨rfl, by rw [HE.out]; simpa only [List.append_assoc, List.append_nil, List.cons_append, List.nil_append] using R.out, TT.out⟩
    · have hz : 0 < (sightL L b).length := List.length_pos_iff.2 h0
      have hz2 := sight_len L b
      have HE2 := hide (show lookE L b = ([tellE L b (theS ++ L.rname r ++ dotT), tellE L b (waysS ++ A)] ++ [tellE L b (hereS ++ listedT L (sightL L b))]) ++ othersK L b 6 by rw [HE.out, if_neg h0])
      clear h0 HE
      have HE := HE2
      clear HE2
      have hzi : decide ((0 : Int) < ((sightL L b).length : Int)) = true := by simp; omega
      go_wp2_with fail
      refine (listed_any S5.out HF.out N5.out (fun x hx => sight_lt hx) (by omega)).mono ?_
      rintro e w6 ⟨rfl, hb6⟩
      have S6 := hide (S5.out.below hb6)
      have T6 := hide (T5.out.trans (S5.out.stp hb6 165))
      clear hb6 S5 T5 N5
      have hs7 : (listedT L (sightL L b)).size ≤ 30000000 := by
        unfold listedT
        have h1 : dotT.size = 1 := rfl
        have h2 : nothingT.size = 8 := rfl
        have h3 := names_size HF.out (sightL L b) (fun x hx => sight_lt hx)
        have h4 : (sightL L b).length * 1048578 ≤ 9 * 1048578 := Nat.mul_le_mul_right _ hz2
        split <;> simp only [ByteArray.size_append] <;> omega
      have hs8 : (⟨#[72, 101, 114, 101, 32, 105, 115]⟩ : ByteArray).size = 7 := rfl
      generalize listedT L (sightL L b) = B at *
      go_wp2_with fail
      refine (rtell_any S6.out b hb _ (by simp only [List.length_append, List.length_cons, List.length_nil]; omega)).mono ?_
      rintro e w7 ⟨rfl, S7h, T7h⟩
      have S7 := hide S7h
      have T7 := hide (T6.out.trans T7h)
      clear S7h T7h S6 T6 hs7 hs8 hz hz2 hzi
      go_wp2_with fail
      go_loopw [63] (fun c wr => ∃ k : Nat, k ≤ 6 ∧ c = .int .i64 k ∧ Sn 47 [] w0 L ((((Es ++ [tellE L b (theS ++ L.rname r ++ dotT)]) ++ [tellE L b (waysS ++ A)]) ++ [tellE L b (hereS ++ B)]) ++ othersK L b k) wr ∧ Stp w0.heap.size 165 w wr) (fun c _ => 6 - (intOf c).toNat)
      case atStart => exact ⟨0, by omega, rfl, by simp only [othersK, List.range_zero, List.filter_nil, List.map_nil, List.append_nil]; exact S7.out, T7.out⟩
      case round =>
        obtain ⟨k, hle, rfl, Rh, Th⟩ := hrel
        have R := hide Rh
        have TT := hide Th
        clear Rh Th S7 T7
        by_cases hk : k < 6
        · have hki : (k : Int) < 6 := by omega
          go_wp2_with fail
          refine (seesOther_any R.out b k).mono ?_
          rintro e wa ⟨rfl, hba⟩
          have R1 := hide (R.out.below hba)
          have T1 := hide (TT.out.trans (R.out.stp hba 165))
          clear hba R TT
          cases hx : seesO L b k with
          | false =>
            have HN := hide (others_no hx)
            clear hx
            go_wp2
            go_roundw
            case rel => exact ⟨k + 1, by omega, by go_num, by rw [HN.out]; exact R1.out, T1.out⟩
            case measure => simp [intOf]; omega
          | true =>
            have HN := hide (others_yes hx)
            clear hx
            have c0 := R1.out.being k 0 hk (by omega)
            simp only [Nat.add_zero, Ld.beingCell] at c0
            have hs0 := HF.out.bname k hk
            have hol := others_len L b k
            go_wp2_with fail
            refine (rtell_any R1.out b hb _ (by simp only [List.length_append, List.length_cons, List.length_nil]; omega)).mono ?_
            rintro e wb ⟨rfl, Sb, Tb⟩
            have R2 := hide Sb
            have T2 := hide (T1.out.trans Tb)
            clear Sb Tb R1 T1 c0 hs0 hol
            go_wp2
            go_roundw
            case rel => exact ⟨k + 1, by omega, by go_num, by rw [HN.out, ← List.append_assoc]; exact R2.out, T2.out⟩
            case measure => simp [intOf]; omega
        · have hk6 : k = 6 := by omega
          subst hk6
          go_wp2
          go_end0
          exact ⟨rfl, by rw [HE.out]; simpa only [List.append_assoc, List.append_nil, List.cons_append, List.nil_append] using R.out, TT.out⟩
end Go.Proofs.YtaifjndkgfffpaaGreatDoor
