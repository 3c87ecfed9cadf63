/-
  The law SensePerceives: Bright, Hidden, Sees, Perceives and All against the document's own answers.
-/
import Derived.Test.YtdembcpljjgbkadDoorSnRefE
import Derived.Test.YtdembcpljjgbkadDoorSnLs
import Derived.Test.YtdembcpljjgbkadDoorSnEq
namespace Go.Proofs.YtdembcpljjgbkadDoor
open Go.RowKit
set_option linter.unusedVariables false

set_option maxRecDepth 100000 in
set_option maxHeartbeats 4000000 in
theorem percW (L : Ld) (a b : Int) (E : Ev) (w : World) (hv : Vb w) (hai : Ai w) :
    Calls Tryd.prog 6 #[.agg L.cells, .int .i64 a, .int .i64 b, .agg E.cells] w fun e w' => e = .returned (.bool true) ∧ Below w.heap.size w w' := by
  have HV := hide hv
  have HAi := hide hai
  clear hv hai
  have P0 : PvRel L E w ((w.alloc (.cells L.cells 46)).alloc (.cells E.cells 48)).drew := (pv_start L E w).drew
  go_enter Tryd.func6, Tryd.ntmps6
  go_wp2_with fail
  refine wp_region_held (S := fun W => PvRel L E w W) (by kernel_rfl) ?_
  refine take_at (i := 0) (d := some 9) (fuel := 50) (v := .agg L.cells) rfl rfl (by kernel_rfl) (by kernel_rfl) (by kernel_rfl) (fun _ _ _ h => h) (Or.inl ⟨by rfl, fun W hW => exec_land (.tmp 4) rfl w.heap.size rfl hW.cod⟩) P0 ?_
  simp only [Act.put, List.setIfInBounds_toArray, List.set]
  refine take_at (i := 1) (d := some 10) (fuel := 49) (v := ?_) rfl rfl (by kernel_rfl) (by kernel_rfl) (by kernel_rfl) (fun _ _ _ h => h) (Or.inl ⟨by rfl, ?_⟩) P0 ?_
  rotate_left
  · intro W hW
    go_simp
    try with_reducible rfl
  simp only [Act.put, List.setIfInBounds_toArray, List.set]
  refine take_at (i := 3) (d := some 12) (fuel := 48) (v := .agg L.cells) rfl rfl (by kernel_rfl) (by kernel_rfl) (by kernel_rfl) (fun _ _ _ h => h) (Or.inl ⟨by rfl, fun W hW => exec_land (.tmp 4) rfl w.heap.size rfl hW.cod⟩) P0 ?_
  simp only [Act.put, List.setIfInBounds_toArray, List.set]
  refine take_at (i := 4) (d := some 13) (fuel := 47) (v := ?_) rfl rfl (by kernel_rfl) (by kernel_rfl) (by kernel_rfl) (fun _ _ _ h => h) (Or.inl ⟨by rfl, ?_⟩) P0 ?_
  rotate_left
  · intro W hW
    go_simp
    try with_reducible rfl
  simp only [Act.put, List.setIfInBounds_toArray, List.set]
  refine wpAnyH_all (fuel := 46) (rs := [2]) (by kernel_rfl) (by simp) ?_
  intro i hi
  obtain rfl : i = 2 := by simpa using hi
  clear hi
  refine call_at (d := some 11) rfl rfl (by rfl) 13 #[.agg L.cells, .int .i64 a] (by kernel_rfl) ?_
  refine (bright_any L a _).mono ?_
  rintro e x1 ⟨rfl, hb⟩
  have S1 := P0.call hb
  clear hb
  refine ⟨_, rfl, S1, ?_⟩
  simp only [Act.put, List.setIfInBounds_toArray, List.set]
  refine wpAnyH_all (fuel := 45) (rs := [5]) (by kernel_rfl) (by simp) ?_
  intro i hi
  obtain rfl : i = 5 := by simpa using hi
  clear hi
  refine call_at (d := some 14) rfl rfl (by rfl) 14 #[.agg L.cells, .int .i64 a] (by kernel_rfl) ?_
  refine (isbright_any L a _).mono ?_
  rintro e x2 ⟨rfl, hb⟩
  have S2 := S1.call hb
  clear hb
  refine ⟨_, rfl, S2, ?_⟩
  simp only [Act.put, List.setIfInBounds_toArray, List.set]
  refine take_at (i := 6) (d := some 15) (fuel := 44) (v := ?_) rfl rfl (by kernel_rfl) (by kernel_rfl) (by kernel_rfl) (fun _ _ _ h => h) (Or.inl ⟨by rfl, ?_⟩) S2 ?_
  rotate_left
  · intro W hW
    go_simp
    try with_reducible rfl
  simp only [Act.put, List.setIfInBounds_toArray, List.set]
  refine take_at (i := 7) (d := some 16) (fuel := 43) (v := ?_) rfl rfl (by kernel_rfl) (by kernel_rfl) (by kernel_rfl) (fun _ _ _ h => h) (Or.inl ⟨by rfl, ?_⟩) S2 ?_
  rotate_left
  · intro W hW
    go_simp
    try with_reducible rfl
  simp only [Act.put, List.setIfInBounds_toArray, List.set]
  refine take_at (i := 8) (d := some 17) (fuel := 42) (v := .agg L.cells) rfl rfl (by kernel_rfl) (by kernel_rfl) (by kernel_rfl) (fun _ _ _ h => h) (Or.inl ⟨by rfl, fun W hW => exec_land (.tmp 4) rfl w.heap.size rfl hW.cod⟩) S2 ?_
  simp only [Act.put, List.setIfInBounds_toArray, List.set]
  refine take_at (i := 9) (d := some 18) (fuel := 41) (v := ?_) rfl rfl (by kernel_rfl) (by kernel_rfl) (by kernel_rfl) (fun _ _ _ h => h) (Or.inl ⟨by rfl, ?_⟩) S2 ?_
  rotate_left
  · intro W hW
    go_simp
    try with_reducible rfl
  simp only [Act.put, List.setIfInBounds_toArray, List.set]
  refine take_at (i := 11) (d := some 20) (fuel := 40) (v := .agg L.cells) rfl rfl (by kernel_rfl) (by kernel_rfl) (by kernel_rfl) (fun _ _ _ h => h) (Or.inl ⟨by rfl, fun W hW => exec_land (.tmp 4) rfl w.heap.size rfl hW.cod⟩) S2 ?_
  simp only [Act.put, List.setIfInBounds_toArray, List.set]
  refine take_at (i := 12) (d := some 21) (fuel := 39) (v := ?_) rfl rfl (by kernel_rfl) (by kernel_rfl) (by kernel_rfl) (fun _ _ _ h => h) (Or.inl ⟨by rfl, ?_⟩) S2 ?_
  rotate_left
  · intro W hW
    go_simp
    try with_reducible rfl
  simp only [Act.put, List.setIfInBounds_toArray, List.set]
  refine wpAnyH_all (fuel := 38) (rs := [10]) (by kernel_rfl) (by simp) ?_
  intro i hi
  obtain rfl : i = 10 := by simpa using hi
  clear hi
  refine call_at (d := some 19) rfl rfl (by rfl) 15 #[.agg L.cells, .int .i64 a] (by kernel_rfl) ?_
  refine (hidden_any L a _).mono ?_
  rintro e x3 ⟨rfl, hb⟩
  have S3 := S2.call hb
  clear hb
  refine ⟨_, rfl, S3, ?_⟩
  simp only [Act.put, List.setIfInBounds_toArray, List.set]
  refine wpAnyH_all (fuel := 37) (rs := [13]) (by kernel_rfl) (by simp) ?_
  intro i hi
  obtain rfl : i = 13 := by simpa using hi
  clear hi
  refine call_at (d := some 22) rfl rfl (by rfl) 16 #[.agg L.cells, .int .i64 a] (by kernel_rfl) ?_
  refine (ishidden_any L a _).mono ?_
  rintro e x4 ⟨rfl, hb⟩
  have S4 := S3.call hb
  clear hb
  refine ⟨_, rfl, S4, ?_⟩
  simp only [Act.put, List.setIfInBounds_toArray, List.set]
  refine take_at (i := 14) (d := some 23) (fuel := 36) (v := ?_) rfl rfl (by kernel_rfl) (by kernel_rfl) (by kernel_rfl) (fun _ _ _ h => h) (Or.inl ⟨by rfl, ?_⟩) S4 ?_
  rotate_left
  · intro W hW
    go_simp
    try with_reducible rfl
  simp only [Act.put, List.setIfInBounds_toArray, List.set]
  refine take_at (i := 15) (d := some 24) (fuel := 35) (v := ?_) rfl rfl (by kernel_rfl) (by kernel_rfl) (by kernel_rfl) (fun _ _ _ h => h) (Or.inl ⟨by rfl, ?_⟩) S4 ?_
  rotate_left
  · intro W hW
    go_simp
    try with_reducible rfl
  simp only [Act.put, List.setIfInBounds_toArray, List.set]
  refine take_at (i := 16) (d := some 25) (fuel := 34) (v := ?_) rfl rfl (by kernel_rfl) (by kernel_rfl) (by kernel_rfl) (fun _ _ _ h => h) (Or.inl ⟨by rfl, ?_⟩) S4 ?_
  rotate_left
  · intro W hW
    go_simp
    try with_reducible rfl
  simp only [Act.put, List.setIfInBounds_toArray, List.set]
  refine take_at (i := 17) (d := some 26) (fuel := 33) (v := .agg L.cells) rfl rfl (by kernel_rfl) (by kernel_rfl) (by kernel_rfl) (fun _ _ _ h => h) (Or.inl ⟨by rfl, fun W hW => exec_land (.tmp 4) rfl w.heap.size rfl hW.cod⟩) S4 ?_
  simp only [Act.put, List.setIfInBounds_toArray, List.set]
  refine take_at (i := 18) (d := some 27) (fuel := 32) (v := ?_) rfl rfl (by kernel_rfl) (by kernel_rfl) (by kernel_rfl) (fun _ _ _ h => h) (Or.inl ⟨by rfl, ?_⟩) S4 ?_
  rotate_left
  · intro W hW
    go_simp
    try with_reducible rfl
  simp only [Act.put, List.setIfInBounds_toArray, List.set]
  refine take_at (i := 19) (d := some 28) (fuel := 31) (v := ?_) rfl rfl (by kernel_rfl) (by kernel_rfl) (by kernel_rfl) (fun _ _ _ h => h) (Or.inl ⟨by rfl, ?_⟩) S4 ?_
  rotate_left
  · intro W hW
    go_simp
    try with_reducible rfl
  simp only [Act.put, List.setIfInBounds_toArray, List.set]
  refine take_at (i := 21) (d := some 30) (fuel := 30) (v := .agg L.cells) rfl rfl (by kernel_rfl) (by kernel_rfl) (by kernel_rfl) (fun _ _ _ h => h) (Or.inl ⟨by rfl, fun W hW => exec_land (.tmp 4) rfl w.heap.size rfl hW.cod⟩) S4 ?_
  simp only [Act.put, List.setIfInBounds_toArray, List.set]
  refine take_at (i := 22) (d := some 31) (fuel := 29) (v := ?_) rfl rfl (by kernel_rfl) (by kernel_rfl) (by kernel_rfl) (fun _ _ _ h => h) (Or.inl ⟨by rfl, ?_⟩) S4 ?_
  rotate_left
  · intro W hW
    go_simp
    try with_reducible rfl
  simp only [Act.put, List.setIfInBounds_toArray, List.set]
  refine take_at (i := 23) (d := some 32) (fuel := 28) (v := ?_) rfl rfl (by kernel_rfl) (by kernel_rfl) (by kernel_rfl) (fun _ _ _ h => h) (Or.inl ⟨by rfl, ?_⟩) S4 ?_
  rotate_left
  · intro W hW
    go_simp
    try with_reducible rfl
  simp only [Act.put, List.setIfInBounds_toArray, List.set]
  refine wpAnyH_all (fuel := 27) (rs := [20]) (by kernel_rfl) (by simp) ?_
  intro i hi
  obtain rfl : i = 20 := by simpa using hi
  clear hi
  refine call_at (d := some 29) rfl rfl (by rfl) 17 #[.agg L.cells, .int .i64 a, .int .i64 b] (by kernel_rfl) ?_
  refine (sees_any L a b _).mono ?_
  rintro e x5 ⟨rfl, hb⟩
  have S5 := S4.call hb
  clear hb
  refine ⟨_, rfl, S5, ?_⟩
  simp only [Act.put, List.setIfInBounds_toArray, List.set]
  refine wpAnyH_all (fuel := 26) (rs := [24]) (by kernel_rfl) (by simp) ?_
  intro i hi
  obtain rfl : i = 24 := by simpa using hi
  clear hi
  refine call_at (d := some 33) rfl rfl (by rfl) 18 #[.agg L.cells, .int .i64 a, .int .i64 b] (by kernel_rfl) ?_
  refine (isseen_any L a b _).mono ?_
  rintro e x6 ⟨rfl, hb⟩
  have S6 := S5.call hb
  clear hb
  refine ⟨_, rfl, S6, ?_⟩
  simp only [Act.put, List.setIfInBounds_toArray, List.set]
  refine take_at (i := 25) (d := some 34) (fuel := 25) (v := ?_) rfl rfl (by kernel_rfl) (by kernel_rfl) (by kernel_rfl) (fun _ _ _ h => h) (Or.inl ⟨by rfl, ?_⟩) S6 ?_
  rotate_left
  · intro W hW
    go_simp
    try with_reducible rfl
  simp only [Act.put, List.setIfInBounds_toArray, List.set]
  refine take_at (i := 26) (d := some 35) (fuel := 24) (v := ?_) rfl rfl (by kernel_rfl) (by kernel_rfl) (by kernel_rfl) (fun _ _ _ h => h) (Or.inl ⟨by rfl, ?_⟩) S6 ?_
  rotate_left
  · intro W hW
    go_simp
    try with_reducible rfl
  simp only [Act.put, List.setIfInBounds_toArray, List.set]
  refine take_at (i := 27) (d := some 36) (fuel := 23) (v := ?_) rfl rfl (by kernel_rfl) (by kernel_rfl) (by kernel_rfl) (fun _ _ _ h => h) (Or.inl ⟨by rfl, ?_⟩) S6 ?_
  rotate_left
  · intro W hW
    go_simp
    try with_reducible rfl
  simp only [Act.put, List.setIfInBounds_toArray, List.set]
  refine take_at (i := 28) (d := some 37) (fuel := 22) (v := .agg L.cells) rfl rfl (by kernel_rfl) (by kernel_rfl) (by kernel_rfl) (fun _ _ _ h => h) (Or.inl ⟨by rfl, fun W hW => exec_land (.tmp 4) rfl w.heap.size rfl hW.cod⟩) S6 ?_
  simp only [Act.put, List.setIfInBounds_toArray, List.set]
  refine take_at (i := 29) (d := some 38) (fuel := 21) (v := ?_) rfl rfl (by kernel_rfl) (by kernel_rfl) (by kernel_rfl) (fun _ _ _ h => h) (Or.inl ⟨by rfl, ?_⟩) S6 ?_
  rotate_left
  · intro W hW
    go_simp
    try with_reducible rfl
  simp only [Act.put, List.setIfInBounds_toArray, List.set]
  refine take_at (i := 30) (d := some 39) (fuel := 20) (v := .agg E.cells) rfl rfl (by kernel_rfl) (by kernel_rfl) (by kernel_rfl) (fun _ _ _ h => h) (Or.inl ⟨by rfl, fun W hW => exec_event (.tmp 7) rfl (w.heap.size + 1) rfl hW.cev⟩) S6 ?_
  simp only [Act.put, List.setIfInBounds_toArray, List.set]
  refine take_at (i := 32) (d := some 41) (fuel := 19) (v := .agg L.cells) rfl rfl (by kernel_rfl) (by kernel_rfl) (by kernel_rfl) (fun _ _ _ h => h) (Or.inl ⟨by rfl, fun W hW => exec_land (.tmp 4) rfl w.heap.size rfl hW.cod⟩) S6 ?_
  simp only [Act.put, List.setIfInBounds_toArray, List.set]
  refine take_at (i := 33) (d := some 42) (fuel := 18) (v := ?_) rfl rfl (by kernel_rfl) (by kernel_rfl) (by kernel_rfl) (fun _ _ _ h => h) (Or.inl ⟨by rfl, ?_⟩) S6 ?_
  rotate_left
  · intro W hW
    go_simp
    try with_reducible rfl
  simp only [Act.put, List.setIfInBounds_toArray, List.set]
  refine take_at (i := 34) (d := some 43) (fuel := 17) (v := .agg E.cells) rfl rfl (by kernel_rfl) (by kernel_rfl) (by kernel_rfl) (fun _ _ _ h => h) (Or.inl ⟨by rfl, fun W hW => exec_event (.tmp 7) rfl (w.heap.size + 1) rfl hW.cev⟩) S6 ?_
  simp only [Act.put, List.setIfInBounds_toArray, List.set]
  refine wpAnyH_all (fuel := 16) (rs := [31]) (by kernel_rfl) (by simp) ?_
  intro i hi
  obtain rfl : i = 31 := by simpa using hi
  clear hi
  refine call_at (d := some 40) rfl rfl (by rfl) 19 #[.agg L.cells, .int .i64 a, .agg E.cells] (by kernel_rfl) ?_
  refine (perc_any L a E _).mono ?_
  rintro e x7 ⟨rfl, hb⟩
  have S7 := S6.call hb
  clear hb
  refine ⟨_, rfl, S7, ?_⟩
  simp only [Act.put, List.setIfInBounds_toArray, List.set]
  refine wpAnyH_all (fuel := 15) (rs := [35]) (by kernel_rfl) (by simp) ?_
  intro i hi
  obtain rfl : i = 35 := by simpa using hi
  clear hi
  refine call_at (d := some 44) rfl rfl (by rfl) 20 #[.agg L.cells, .int .i64 a, .agg E.cells] (by kernel_rfl) ?_
  refine (perceived_any L a E _).mono ?_
  rintro e x8 ⟨rfl, hb⟩
  have S8 := S7.call hb
  clear hb
  refine ⟨_, rfl, S8, ?_⟩
  simp only [Act.put, List.setIfInBounds_toArray, List.set]
  refine take_at (i := 36) (d := some 45) (fuel := 14) (v := ?_) rfl rfl (by kernel_rfl) (by kernel_rfl) (by kernel_rfl) (fun _ _ _ h => h) (Or.inl ⟨by rfl, ?_⟩) S8 ?_
  rotate_left
  · intro W hW
    go_simp
    try with_reducible rfl
  simp only [Act.put, List.setIfInBounds_toArray, List.set]
  refine take_at (i := 37) (d := some 46) (fuel := 13) (v := ?_) rfl rfl (by kernel_rfl) (by kernel_rfl) (by kernel_rfl) (fun _ _ _ h => h) (Or.inl ⟨by rfl, ?_⟩) S8 ?_
  rotate_left
  · intro W hW
    go_simp
    try with_reducible rfl
  simp only [Act.put, List.setIfInBounds_toArray, List.set]
  refine take_at (i := 38) (d := some 47) (fuel := 12) (v := ?_) rfl rfl (by kernel_rfl) (by kernel_rfl) (by kernel_rfl) (fun _ _ _ h => h) (Or.inl ⟨by rfl, ?_⟩) S8 ?_
  rotate_left
  · intro W hW
    go_simp
    try with_reducible rfl
  simp only [Act.put, List.setIfInBounds_toArray, List.set]
  refine take_at (i := 39) (d := some 48) (fuel := 11) (v := .agg L.cells) rfl rfl (by kernel_rfl) (by kernel_rfl) (by kernel_rfl) (fun _ _ _ h => h) (Or.inl ⟨by rfl, fun W hW => exec_land (.tmp 4) rfl w.heap.size rfl hW.cod⟩) S8 ?_
  simp only [Act.put, List.setIfInBounds_toArray, List.set]
  refine take_at (i := 40) (d := some 49) (fuel := 10) (v := .agg E.cells) rfl rfl (by kernel_rfl) (by kernel_rfl) (by kernel_rfl) (fun _ _ _ h => h) (Or.inl ⟨by rfl, fun W hW => exec_event (.tmp 7) rfl (w.heap.size + 1) rfl hW.cev⟩) S8 ?_
  simp only [Act.put, List.setIfInBounds_toArray, List.set]
  refine take_at (i := 42) (d := some 51) (fuel := 9) (v := .agg L.cells) rfl rfl (by kernel_rfl) (by kernel_rfl) (by kernel_rfl) (fun _ _ _ h => h) (Or.inl ⟨by rfl, fun W hW => exec_land (.tmp 4) rfl w.heap.size rfl hW.cod⟩) S8 ?_
  simp only [Act.put, List.setIfInBounds_toArray, List.set]
  refine take_at (i := 43) (d := some 52) (fuel := 8) (v := .agg E.cells) rfl rfl (by kernel_rfl) (by kernel_rfl) (by kernel_rfl) (fun _ _ _ h => h) (Or.inl ⟨by rfl, fun W hW => exec_event (.tmp 7) rfl (w.heap.size + 1) rfl hW.cev⟩) S8 ?_
  simp only [Act.put, List.setIfInBounds_toArray, List.set]
  refine wpAnyH_all (fuel := 7) (rs := [41]) (by kernel_rfl) (by simp) ?_
  intro i hi
  obtain rfl : i = 41 := by simpa using hi
  clear hi
  refine call_at (d := some 50) rfl rfl (by rfl) 21 #[.agg L.cells, .agg E.cells] (by kernel_rfl) ?_
  refine (all_any L E _).mono ?_
  rintro e x9 ⟨rfl, hb⟩
  have S9 := S8.call hb
  clear hb
  refine ⟨_, rfl, S9, ?_⟩
  simp only [Act.put, List.setIfInBounds_toArray, List.set]
  refine wpAnyH_all (fuel := 6) (rs := [44]) (by kernel_rfl) (by simp) ?_
  intro i hi
  obtain rfl : i = 44 := by simpa using hi
  clear hi
  refine call_at (d := some 53) rfl rfl (by rfl) 22 #[.agg L.cells, .agg E.cells] (by kernel_rfl) ?_
  refine (everybody_any L E _).mono ?_
  rintro e x10 ⟨rfl, hb⟩
  have S10 := S9.call hb
  clear hb
  refine ⟨_, rfl, S10, ?_⟩
  simp only [Act.put, List.setIfInBounds_toArray, List.set]
  refine take_at (i := 45) (d := some 54) (fuel := 5) (v := .bool true) rfl rfl (by kernel_rfl) (by kernel_rfl) (by kernel_rfl) (fun _ _ _ h => h) (Or.inl ⟨by rfl, fun W hW => exec_eqev (.tmp 50) (.tmp 53) 48 rfl rfl rfl⟩) S10 ?_
  simp only [Act.put, List.setIfInBounds_toArray, List.set]
  refine take_at (i := 46) (d := some 55) (fuel := 4) (v := ?_) rfl rfl (by kernel_rfl) (by kernel_rfl) (by kernel_rfl) (fun _ _ _ h => h) (Or.inl ⟨by rfl, ?_⟩) S10 ?_
  rotate_left
  · intro W hW
    go_simp
    try with_reducible rfl
  simp only [Act.put, List.setIfInBounds_toArray, List.set]
  refine take_at (i := 47) (d := some 56) (fuel := 3) (v := ?_) rfl rfl (by kernel_rfl) (by kernel_rfl) (by kernel_rfl) (fun _ _ _ h => h) (Or.inl ⟨by rfl, ?_⟩) S10 ?_
  rotate_left
  · intro W hW
    go_simp
    try with_reducible rfl
  simp only [Act.put, List.setIfInBounds_toArray, List.set]
  refine wpAnyH_all (fuel := 2) (rs := [48]) (by kernel_rfl) (by simp) ?_
  intro i hi
  obtain rfl : i = 48 := by simpa using hi
  clear hi
  refine call_at (d := some 57) rfl rfl (by rfl) 23 #[] (by kernel_rfl) ?_
  refine (lsenses_any _ (HV.out.below S10.low (Nat.le_refl _)) (HAi.out.below S10.low)).mono ?_
  rintro e x11 ⟨rfl, hb⟩
  have S11 := S10.call hb
  clear hb
  refine ⟨_, rfl, S11, ?_⟩
  simp only [Act.put, List.setIfInBounds_toArray, List.set]
  refine take_at (i := 49) (d := some 58) (fuel := 1) (v := ?_) rfl rfl (by kernel_rfl) (by kernel_rfl) (by kernel_rfl) (fun _ _ _ h => h) (Or.inl ⟨by rfl, ?_⟩) S11 ?_
  rotate_left
  · intro W hW
    go_simp
    try with_reducible rfl
  simp only [Act.put, List.setIfInBounds_toArray, List.set]
  refine take_at (i := 50) (d := some 8) (fuel := 0) (v := ?_) rfl rfl (by kernel_rfl) (by kernel_rfl) (by kernel_rfl) (fun _ _ _ h => h) (Or.inl ⟨by rfl, ?_⟩) S11 ?_
  rotate_left
  · intro W hW
    go_simp
    try with_reducible rfl
  simp only [Act.put, List.setIfInBounds_toArray, List.set]
  refine wpAnyH_done (by kernel_rfl) ?_ _
  go_wp2
  go_ret
  exact ⟨rfl, S11.low⟩
end Go.Proofs.YtdembcpljjgbkadDoor
