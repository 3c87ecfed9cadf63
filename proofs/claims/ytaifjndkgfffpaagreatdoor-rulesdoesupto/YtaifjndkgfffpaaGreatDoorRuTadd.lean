/-
  The document's own turn: what it adds to the row: the contract. Written by a program.
-/
import Derived.Test.YtaifjndkgfffpaaGreatDoorMgD
import Derived.Test.YtaifjndkgfffpaaGreatDoorMg4
namespace Go.Proofs.YtaifjndkgfffpaaGreatDoor
open Go.RowKit
set_option linter.unusedVariables false

/-- The event that the document's turn adds. -/
def addE (L : Ld) (b : Nat) (kind other dir num : Int) (whom thing text : ByteArray) : Ev :=
  { kind := kind, room := L.room b, actor := (b : Int), other := other, dir := dir, num := num, who := L.bname b, whom := whom, thing := thing, text := text, by' := fun _ => 0 }

theorem hq_mk {T : TypeId} {pre : List Value} {w0 w wz : World} {L : Ld} {Es : List Ev} (h : Sn T pre w0 L Es w) (E : Ev) (hb : Below w.heap.size w wz) (hc : Cev wz w.heap.size E) : ∃ v, Hq T pre w0 L Es v E w wz.drew ∧ (v.ownBlock = none ∨ ∃ k, v.ownBlock = some k ∧ k < w.heap.size) := by
  obtain ⟨v, hv, ho⟩ := h.ex
  refine ⟨v, ⟨by show wz.heap[_]? = _; rw [hb.block _ h.lt]; exact hv, own_below ho hb.drew, hc, (h.low.trans (hb.mono h.low.size)).drew, hb.drew⟩, ?_⟩
  cases hx : v.ownBlock with
  | none => exact .inl rfl
  | some k => exact .inr ⟨k, rfl, (ho.lt k hx).2⟩

set_option maxRecDepth 100000 in
set_option maxHeartbeats 4000000 in
theorem tadd_none {w0 : World} {L : Ld} {Es : List Ev} {w : World} {b : Nat} (hS : Sn 52 [.int .i64 (b : Int)] w0 L Es w) (hb : b < 6) (kind dir num : Int) (thing text : ByteArray) (hlen : Es.length ≤ 1000000) :
    Calls Tryz.prog 16 #[.pointer (some ⟨w0.heap.size, 0, none⟩), .int .i64 kind, .int .i64 (-1), .int .i64 dir, .int .i64 num, .string thing, .string text] w fun e w' => e = .returned (.tuple #[]) ∧ Sn 52 [.int .i64 (b : Int)] w0 L (Es ++ [allE L (addE L b kind (-1) dir num ⟨#[]⟩ thing text)]) w' ∧ Stp w0.heap.size 166 w w' := by
  have c0 := hS.being b 0 hb (by omega)
  have c3 := hS.being b 3 hb (by omega)
  have cb : w.cell? ⟨w0.heap.size, 165, none⟩ = some (.int .i64 (b : Int)) := hS.fore 0 (by simp)
  have hl := hS.lt
  have hbi : (b : Int) < 6 := by omega
  simp only [Nat.add_zero, Ld.beingCell] at c0 c3
  generalize hE : addE L b kind (-1) dir num ⟨#[]⟩ thing text = E at *
  have HE := hide hE
  clear hE
  go_enter Tryz.func16, Tryz.ntmps16
  go_wp2_with fail
  go_region
  go_upto_region 3 with fail
  have CZ : Cev (w.alloc (.cells E.cells 62)).drew w.heap.size E := heap_alloc_new w _
  have BZ : Below w.heap.size w (w.alloc (.cells E.cells 62)).drew := (below_box w _).drew
  have hEc : E.cells = #[.int .i64 kind, .int .i64 (L.room b), .int .i64 (b : Int), .int .i64 (-1), .int .i64 dir, .int .i64 num, .string (L.bname b), .string ⟨#[]⟩, .string thing, .string text, .int .i64 0, .int .i64 0, .int .i64 0, .int .i64 0, .int .i64 0, .int .i64 0] := by rw [← HE.out]; rfl
  rw [← hEc]
  generalize (w.alloc (.cells E.cells 62)).drew = wz at *
  obtain ⟨v, HQ, hv⟩ := hq_mk hS E BZ CZ
  obtain ⟨av, cap, rfl⟩ := shapeE HQ.own
  clear c0 c3 cb hEc
  refine wp_region_held (S := Hp w0.heap.size L w.heap.size E) (by kernel_rfl) ?_
  change wpAnyH _ _ _ _ _ _ _ _ wz.drew
  generalize wz.drew = W0 at HQ ⊢
  refine tw (i := 0) (d := some 59) (fuel := 15) (v := ?_) rfl rfl ?_ HQ.hp ?_
  rotate_left
  · intro W hW; go_simp; try with_reducible rfl
  simp only [Act.put, sT, List.set]
  refine tw (i := 1) (d := some 60) (fuel := 14) (v := ?_) rfl rfl ?_ HQ.hp ?_
  rotate_left
  · intro W hW; go_simp; try with_reducible rfl
  simp only [Act.put, sT, List.set]
  refine tw (i := 2) (d := some 61) (fuel := 13) (v := ?_) rfl rfl ?_ HQ.hp ?_
  rotate_left
  · intro W hW; go_simp; try with_reducible rfl
  simp only [Act.put, sT, List.set]
  refine tw (i := 3) (d := some 62) (fuel := 12) (v := ?_) rfl rfl ?_ HQ.hp ?_
  rotate_left
  · intro W hW; go_simp; try with_reducible rfl
  simp only [Act.put, sT, List.set]
  refine tw (i := 5) (d := some 64) (fuel := 11) (v := ?_) rfl rfl ?_ HQ.hp ?_
  rotate_left
  · intro W hW; go_simp; try with_reducible rfl
  simp only [Act.put, sT, List.set]
  refine tw (i := 6) (d := some 65) (fuel := 10) (v := ?_) rfl rfl ?_ HQ.hp ?_
  rotate_left
  · intro W hW; go_simp; try with_reducible rfl
  simp only [Act.put, sT, List.set]
  refine tw (i := 7) (d := some 66) (fuel := 9) (v := ?_) rfl rfl ?_ HQ.hp ?_
  rotate_left
  · intro W hW; go_simp; try with_reducible rfl
  simp only [Act.put, sT, List.set]
  refine tk (i := 8) (d := some 67) (fuel := 8) (v := .agg L.cells) rfl rfl (Or.inl ⟨by rfl, fun W hW => exec_land' (.tmp 66) rfl rfl hW.land⟩) HQ.hp ?_
  simp only [Act.put, sT, List.set]
  refine tk (i := 9) (d := some 68) (fuel := 7) (v := .agg E.cells) rfl rfl (Or.inl ⟨by rfl, fun W hW => exec_event (.tmp 14) rfl _ rfl hW.cev⟩) HQ.hp ?_
  simp only [Act.put, sT, List.set]
  refine wpAnyH_all (fuel := 6) (rs := [4, 10]) (by kernel_rfl) (by simp) ?_
  intro i hi
  have hi2 : i = 4 ∨ i = 10 := by simpa using hi
  clear hi
  rcases hi2 with rfl | rfl
  · refine run_at (d := some 63) (v := .slice av Es.length cap) (w' := W0) rfl rfl (by rfl) ?_ ?_
    · have hc := HQ.row
      revert hc
      generalize W0 = W
      intro hc
      simp only [List.length_cons, List.length_nil, Nat.reduceAdd] at hc
      go_simp
      try with_reducible rfl
    refine ⟨HQ.hp, ?_⟩
    simp only [Act.put, sT, List.set]
    refine wpAnyH_all (fuel := 5) (rs := [10]) (by kernel_rfl) (by simp) ?_
    intro i hi
    obtain rfl : i = 10 := by simpa using hi
    clear hi
    refine call_at (d := some 69) rfl rfl (by rfl) 55 #[.agg L.cells, .agg E.cells] (by kernel_rfl) ?_
    refine (everybody_any L E _).mono ?_
    rintro e x1 ⟨rfl, hb⟩
    have H1 := HQ.call hb
    clear hb
    refine ⟨_, rfl, H1.hp, ?_⟩
    simp only [Act.put, sT, List.set]
    refine wpAnyH_all (fuel := 4) (rs := [11]) (by kernel_rfl) (by simp) ?_
    intro i hi
    obtain rfl : i = 11 := by simpa using hi
    clear hi
    refine run_at (d := some 70) rfl rfl (by rfl) (exec_row (.tmp 69) rfl (E := allE L E) rfl) ?_
    have H2 := H1.call (below_box x1 (.cells (allE L E).cells 62))
    refine ⟨H2.hp, ?_⟩
    simp only [Act.put, sT, List.set]
    refine wpAnyH_all (fuel := 3) (rs := [12]) (by kernel_rfl) (by simp) ?_
    intro i hi
    obtain rfl : i = 12 := by simpa using hi
    clear hi
    obtain ⟨u, y1, hr, o1, o2, o3⟩ := exec_append (w := x1.alloc (.cells (allE L E).cells 62)) 37 (base := w0.heap.size + 1) (E := allE L E) H2.own (heap_alloc_new x1 _) hlen (by have := H2.sn.lt; omega)
    refine run_at (d := some 71) rfl rfl (by rfl) (hr _ _ (.tmp 63) (.tmp 70) rfl rfl rfl rfl) ?_
    have G := H2.grown hv o2
    refine ⟨G.1, ?_⟩
    simp only [Act.put, sT, List.set]
    refine tw (i := 13) (d := some 72) (fuel := 2) (v := ?_) rfl rfl ?_ G.1 ?_
    rotate_left
    · intro W hW; go_simp; try with_reducible rfl
    simp only [Act.put, sT, List.set]
    refine tw (i := 14) (d := some 73) (fuel := 1) (v := ?_) rfl rfl ?_ G.1 ?_
    rotate_left
    · intro W hW; go_simp; try with_reducible rfl
    simp only [Act.put, sT, List.set]
    refine wpAnyH_all (fuel := 0) (rs := [15]) (by kernel_rfl) (by simp) ?_
    intro i hi
    obtain rfl : i = 15 := by simpa using hi
    clear hi
    obtain ⟨av', cap', rfl⟩ := shapeE o1
    refine skip_at (d := none) (w' := y1.setCell ⟨w0.heap.size, 165 + ([.int .i64 (b : Int)] : List Value).length, none⟩ (.slice av' (Es.length + 1) cap')) rfl rfl (by rfl) ?_ ?_
    · have hc : y1.cell? ⟨w0.heap.size, 165 + ([.int .i64 (b : Int)] : List Value).length, none⟩ = some (.slice av Es.length cap) := by rw [cell_of_row _ _ _ _ _ _ G.2, more_row]
      have hf : y1.frozen? ⟨w0.heap.size, 165 + ([.int .i64 (b : Int)] : List Value).length, none⟩ = false := by simp only [World.frozen?, G.2]; simp
      simp only [List.length_cons, List.length_nil, Nat.reduceAdd] at hc hf
      go_simp
      try with_reducible rfl
    have hk : w.heap.size ≠ w0.heap.size := by have := hS.lt; omega
    refine ⟨G.1.put (by omega) hk _, ?_⟩
    simp only [Act.put]
    have A := Sn.append H2.sn H2.blk o1 H2.own o2 o3
    have A2 := (Stp.below H2.bel hS.lt).trans A.2
    refine wpAnyH_done (by kernel_rfl) ?_ _
    go_end0
    exact ⟨rfl, A.1, A2⟩
  · refine call_at (d := some 69) rfl rfl (by rfl) 55 #[.agg L.cells, .agg E.cells] (by kernel_rfl) ?_
    refine (everybody_any L E _).mono ?_
    rintro e x1 ⟨rfl, hb⟩
    have H1 := HQ.call hb
    clear hb
    refine ⟨_, rfl, H1.hp, ?_⟩
    simp only [Act.put, sT, List.set]
    refine wpAnyH_all (fuel := 5) (rs := [4, 11]) (by kernel_rfl) (by simp) ?_
    intro i hi
    have hi2 : i = 4 ∨ i = 11 := by simpa using hi
    clear hi
    rcases hi2 with rfl | rfl
    · refine run_at (d := some 63) (v := .slice av Es.length cap) (w' := x1) rfl rfl (by rfl) ?_ ?_
      · have hc := H1.row
        revert hc
        generalize x1 = W
        intro hc
        simp only [List.length_cons, List.length_nil, Nat.reduceAdd] at hc
        go_simp
        try with_reducible rfl
      refine ⟨H1.hp, ?_⟩
      simp only [Act.put, sT, List.set]
      refine wpAnyH_all (fuel := 4) (rs := [11]) (by kernel_rfl) (by simp) ?_
      intro i hi
      obtain rfl : i = 11 := by simpa using hi
      clear hi
      refine run_at (d := some 70) rfl rfl (by rfl) (exec_row (.tmp 69) rfl (E := allE L E) rfl) ?_
      have H2 := H1.call (below_box x1 (.cells (allE L E).cells 62))
      refine ⟨H2.hp, ?_⟩
      simp only [Act.put, sT, List.set]
      refine wpAnyH_all (fuel := 3) (rs := [12]) (by kernel_rfl) (by simp) ?_
      intro i hi
      obtain rfl : i = 12 := by simpa using hi
      clear hi
      obtain ⟨u, y1, hr, o1, o2, o3⟩ := exec_append (w := x1.alloc (.cells (allE L E).cells 62)) 37 (base := w0.heap.size + 1) (E := allE L E) H2.own (heap_alloc_new x1 _) hlen (by have := H2.sn.lt; omega)
      refine run_at (d := some 71) rfl rfl (by rfl) (hr _ _ (.tmp 63) (.tmp 70) rfl rfl rfl rfl) ?_
      have G := H2.grown hv o2
      refine ⟨G.1, ?_⟩
      simp only [Act.put, sT, List.set]
      refine tw (i := 13) (d := some 72) (fuel := 2) (v := ?_) rfl rfl ?_ G.1 ?_
      rotate_left
      · intro W hW; go_simp; try with_reducible rfl
      simp only [Act.put, sT, List.set]
      refine tw (i := 14) (d := some 73) (fuel := 1) (v := ?_) rfl rfl ?_ G.1 ?_
      rotate_left
      · intro W hW; go_simp; try with_reducible rfl
      simp only [Act.put, sT, List.set]
      refine wpAnyH_all (fuel := 0) (rs := [15]) (by kernel_rfl) (by simp) ?_
      intro i hi
      obtain rfl : i = 15 := by simpa using hi
      clear hi
      obtain ⟨av', cap', rfl⟩ := shapeE o1
      refine skip_at (d := none) (w' := y1.setCell ⟨w0.heap.size, 165 + ([.int .i64 (b : Int)] : List Value).length, none⟩ (.slice av' (Es.length + 1) cap')) rfl rfl (by rfl) ?_ ?_
      · have hc : y1.cell? ⟨w0.heap.size, 165 + ([.int .i64 (b : Int)] : List Value).length, none⟩ = some (.slice av Es.length cap) := by rw [cell_of_row _ _ _ _ _ _ G.2, more_row]
        have hf : y1.frozen? ⟨w0.heap.size, 165 + ([.int .i64 (b : Int)] : List Value).length, none⟩ = false := by simp only [World.frozen?, G.2]; simp
        simp only [List.length_cons, List.length_nil, Nat.reduceAdd] at hc hf
        go_simp
        try with_reducible rfl
      have hk : w.heap.size ≠ w0.heap.size := by have := hS.lt; omega
      refine ⟨G.1.put (by omega) hk _, ?_⟩
      simp only [Act.put]
      have A := Sn.append H2.sn H2.blk o1 H2.own o2 o3
      have A2 := (Stp.below H2.bel hS.lt).trans A.2
      refine wpAnyH_done (by kernel_rfl) ?_ _
      go_end0
      exact ⟨rfl, A.1, A2⟩
    · refine run_at (d := some 70) rfl rfl (by rfl) (exec_row (.tmp 69) rfl (E := allE L E) rfl) ?_
      have H2 := H1.call (below_box x1 (.cells (allE L E).cells 62))
      refine ⟨H2.hp, ?_⟩
      simp only [Act.put, sT, List.set]
      refine wpAnyH_all (fuel := 4) (rs := [4]) (by kernel_rfl) (by simp) ?_
      intro i hi
      obtain rfl : i = 4 := by simpa using hi
      clear hi
      refine run_at (d := some 63) (v := .slice av Es.length cap) (w' := (x1.alloc (.cells (allE L E).cells 62))) rfl rfl (by rfl) ?_ ?_
      · have hc := H2.row
        revert hc
        generalize (x1.alloc (.cells (allE L E).cells 62)) = W
        intro hc
        simp only [List.length_cons, List.length_nil, Nat.reduceAdd] at hc
        go_simp
        try with_reducible rfl
      refine ⟨H2.hp, ?_⟩
      simp only [Act.put, sT, List.set]
      refine wpAnyH_all (fuel := 3) (rs := [12]) (by kernel_rfl) (by simp) ?_
      intro i hi
      obtain rfl : i = 12 := by simpa using hi
      clear hi
      obtain ⟨u, y1, hr, o1, o2, o3⟩ := exec_append (w := x1.alloc (.cells (allE L E).cells 62)) 37 (base := w0.heap.size + 1) (E := allE L E) H2.own (heap_alloc_new x1 _) hlen (by have := H2.sn.lt; omega)
      refine run_at (d := some 71) rfl rfl (by rfl) (hr _ _ (.tmp 63) (.tmp 70) rfl rfl rfl rfl) ?_
      have G := H2.grown hv o2
      refine ⟨G.1, ?_⟩
      simp only [Act.put, sT, List.set]
      refine tw (i := 13) (d := some 72) (fuel := 2) (v := ?_) rfl rfl ?_ G.1 ?_
      rotate_left
      · intro W hW; go_simp; try with_reducible rfl
      simp only [Act.put, sT, List.set]
      refine tw (i := 14) (d := some 73) (fuel := 1) (v := ?_) rfl rfl ?_ G.1 ?_
      rotate_left
      · intro W hW; go_simp; try with_reducible rfl
      simp only [Act.put, sT, List.set]
      refine wpAnyH_all (fuel := 0) (rs := [15]) (by kernel_rfl) (by simp) ?_
      intro i hi
      obtain rfl : i = 15 := by simpa using hi
      clear hi
      obtain ⟨av', cap', rfl⟩ := shapeE o1
      refine skip_at (d := none) (w' := y1.setCell ⟨w0.heap.size, 165 + ([.int .i64 (b : Int)] : List Value).length, none⟩ (.slice av' (Es.length + 1) cap')) rfl rfl (by rfl) ?_ ?_
      · have hc : y1.cell? ⟨w0.heap.size, 165 + ([.int .i64 (b : Int)] : List Value).length, none⟩ = some (.slice av Es.length cap) := by rw [cell_of_row _ _ _ _ _ _ G.2, more_row]
        have hf : y1.frozen? ⟨w0.heap.size, 165 + ([.int .i64 (b : Int)] : List Value).length, none⟩ = false := by simp only [World.frozen?, G.2]; simp
        simp only [List.length_cons, List.length_nil, Nat.reduceAdd] at hc hf
        go_simp
        try with_reducible rfl
      have hk : w.heap.size ≠ w0.heap.size := by have := hS.lt; omega
      refine ⟨G.1.put (by omega) hk _, ?_⟩
      simp only [Act.put]
      have A := Sn.append H2.sn H2.blk o1 H2.own o2 o3
      have A2 := (Stp.below H2.bel hS.lt).trans A.2
      refine wpAnyH_done (by kernel_rfl) ?_ _
      go_end0
      exact ⟨rfl, A.1, A2⟩
end Go.Proofs.YtaifjndkgfffpaaGreatDoor
