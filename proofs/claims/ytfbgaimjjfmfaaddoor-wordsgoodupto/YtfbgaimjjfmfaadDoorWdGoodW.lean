/-
  WordsGood's walk.
-/
import Derived.Test.YtfbgaimjjfmfaadDoorWdEq
namespace Go.Proofs.YtfbgaimjjfmfaadDoor
open Go.RowKit
set_option linter.unusedVariables false

set_option maxHeartbeats 2000000 in
set_option maxRecDepth 100000 in
theorem good_bad (s : ByteArray) (w : World) (hs : s.size ≤ 8796093022207) (hv : Vb w) (k : Int) (hk : k = 1 ∨ k = 3) (hp : parseL s.data.toList = (zo, k)) :
    Calls Tryd.prog 5 #[.string s] w fun e w' => e = .returned (.bool true) ∧ Below w.heap.size w w' := by
  have C1 := hide (fun w' h => parse_any s w' hs h)
  rw [hp] at C1
  simp only [Ord.cells, zo] at C1
  have hq := fun w' => eqlOrd w' 0 0 false ⟨#[]⟩ ⟨#[]⟩ ⟨#[]⟩
  have hbn : bs [] = ⟨#[]⟩ := rfl
  rw [hbn] at C1
  have hv0 := hide hv
  clear hv hp hbn
  rcases hk with rfl | rfl
  all_goals go_enter Tryd.func5, Tryd.ntmps5
  all_goals go_wp2_with fail
  all_goals refine (C1.out _ hv0.out).mono ?_
  all_goals rintro e w1 ⟨rfl, hb1⟩
  all_goals have hv1 := hide (hv0.out.below hb1 (Nat.le_refl _))
  all_goals go_wp2_with fail
  all_goals refine (means_any _ (hv1.out.alloc _)).mono ?_
  all_goals rintro e w2 ⟨rfl, hb2⟩
  all_goals go_wp2
  all_goals go_ret
  all_goals exact ⟨rfl, (hb1.alloc hb1.size _).trans (hb2.mono (by have := hb1.size; simp; omega))⟩
/-- The order's cells, behind means. -/
theorem cells_kept {w1 w2 : World} {c : Array Value} (hb : Below (w1.alloc (.cells c 29)).heap.size (w1.alloc (.cells c 29)) w2) (o : Nat) : w2.cell? ⟨w1.heap.size, o, none⟩ = c[o]? := by
  have h : w2.heap[w1.heap.size]? = some (.cells c 29) := by
    rw [hb.block _ (by simp)]; exact heap_alloc_new w1 _
  simp [World.cell?, h]

set_option maxHeartbeats 4000000 in
set_option maxRecDepth 100000 in
theorem good_7_true_e (s : ByteArray) (w : World) (hs : s.size ≤ 8796093022207) (hv : Vb w) (N : Nat) (hN : N ≤ 99) (P Q R : List UInt8) (hQ : Q.isEmpty = true) (hR : R.isEmpty = true) (hp : parseL s.data.toList = ({ verb := 7, nth := N, all := true, name := P, second := Q, text := R }, 0)) :
    Calls Tryd.prog 5 #[.string s] w fun e w' => e = .returned (.bool true) ∧ Below w.heap.size w w' := by
  have C1 := hide (fun w' h => parse_any s w' hs h)
  rw [hp] at C1
  simp only [Ord.cells] at C1
  have hbt := bs_toList
  have hv0 := hide hv
  clear hv hp
  go_enter Tryd.func5, Tryd.ntmps5
  go_wp2_with fail
  refine (C1.out _ hv0.out).mono ?_
  rintro e w1 ⟨rfl, hb1⟩
  have hv1 := hide (hv0.out.below hb1 (Nat.le_refl _))
  replace hb1 := hide hb1
  go_wp2_with fail
  refine (means_any _ (hv1.out.alloc _)).mono ?_
  rintro e w2 ⟨rfl, hb2⟩
  have c0 : w2.cell? ⟨w1.heap.size, 0, none⟩ = some _ := cells_kept hb2 0
  have c1 : w2.cell? ⟨w1.heap.size, 1, none⟩ = some _ := cells_kept hb2 1
  have c2 : w2.cell? ⟨w1.heap.size, 2, none⟩ = some _ := cells_kept hb2 2
  have c4 : w2.cell? ⟨w1.heap.size, 4, none⟩ = some _ := cells_kept hb2 4
  have c5 : w2.cell? ⟨w1.heap.size, 5, none⟩ = some _ := cells_kept hb2 5
  have HB := hide ((hb1.out.alloc hb1.out.size _).trans (hb2.mono (by have := hb1.out.size; simp; omega)))
  clear hb2 hb1 hv1 C1
  go_wp2
  all_goals go_ret
  all_goals exact ⟨rfl, HB.out⟩

set_option maxHeartbeats 4000000 in
set_option maxRecDepth 100000 in
theorem good_7_true_n (s : ByteArray) (w : World) (hs : s.size ≤ 8796093022207) (hv : Vb w) (N : Nat) (hN : N ≤ 99) (P Q R : List UInt8) (hQ : Q.isEmpty = false) (hR : R.isEmpty = true) (hp : parseL s.data.toList = ({ verb := 7, nth := N, all := true, name := P, second := Q, text := R }, 0)) :
    Calls Tryd.prog 5 #[.string s] w fun e w' => e = .returned (.bool true) ∧ Below w.heap.size w w' := by
  have C1 := hide (fun w' h => parse_any s w' hs h)
  rw [hp] at C1
  simp only [Ord.cells] at C1
  have hbt := bs_toList
  have hv0 := hide hv
  clear hv hp
  go_enter Tryd.func5, Tryd.ntmps5
  go_wp2_with fail
  refine (C1.out _ hv0.out).mono ?_
  rintro e w1 ⟨rfl, hb1⟩
  have hv1 := hide (hv0.out.below hb1 (Nat.le_refl _))
  replace hb1 := hide hb1
  go_wp2_with fail
  refine (means_any _ (hv1.out.alloc _)).mono ?_
  rintro e w2 ⟨rfl, hb2⟩
  have c0 : w2.cell? ⟨w1.heap.size, 0, none⟩ = some _ := cells_kept hb2 0
  have c1 : w2.cell? ⟨w1.heap.size, 1, none⟩ = some _ := cells_kept hb2 1
  have c2 : w2.cell? ⟨w1.heap.size, 2, none⟩ = some _ := cells_kept hb2 2
  have c4 : w2.cell? ⟨w1.heap.size, 4, none⟩ = some _ := cells_kept hb2 4
  have c5 : w2.cell? ⟨w1.heap.size, 5, none⟩ = some _ := cells_kept hb2 5
  have HB := hide ((hb1.out.alloc hb1.out.size _).trans (hb2.mono (by have := hb1.out.size; simp; omega)))
  clear hb2 hb1 hv1 C1
  go_wp2
  all_goals go_ret
  all_goals exact ⟨rfl, HB.out⟩

set_option maxHeartbeats 4000000 in
set_option maxRecDepth 100000 in
theorem good_7_false_e (s : ByteArray) (w : World) (hs : s.size ≤ 8796093022207) (hv : Vb w) (N : Nat) (hN : N ≤ 99) (P Q R : List UInt8) (hQ : Q.isEmpty = true) (hR : R.isEmpty = true) (hp : parseL s.data.toList = ({ verb := 7, nth := N, all := false, name := P, second := Q, text := R }, 0)) :
    Calls Tryd.prog 5 #[.string s] w fun e w' => e = .returned (.bool true) ∧ Below w.heap.size w w' := by
  have C1 := hide (fun w' h => parse_any s w' hs h)
  rw [hp] at C1
  simp only [Ord.cells] at C1
  have hbt := bs_toList
  have hv0 := hide hv
  clear hv hp
  go_enter Tryd.func5, Tryd.ntmps5
  go_wp2_with fail
  refine (C1.out _ hv0.out).mono ?_
  rintro e w1 ⟨rfl, hb1⟩
  have hv1 := hide (hv0.out.below hb1 (Nat.le_refl _))
  replace hb1 := hide hb1
  go_wp2_with fail
  refine (means_any _ (hv1.out.alloc _)).mono ?_
  rintro e w2 ⟨rfl, hb2⟩
  have c0 : w2.cell? ⟨w1.heap.size, 0, none⟩ = some _ := cells_kept hb2 0
  have c1 : w2.cell? ⟨w1.heap.size, 1, none⟩ = some _ := cells_kept hb2 1
  have c2 : w2.cell? ⟨w1.heap.size, 2, none⟩ = some _ := cells_kept hb2 2
  have c4 : w2.cell? ⟨w1.heap.size, 4, none⟩ = some _ := cells_kept hb2 4
  have c5 : w2.cell? ⟨w1.heap.size, 5, none⟩ = some _ := cells_kept hb2 5
  have HB := hide ((hb1.out.alloc hb1.out.size _).trans (hb2.mono (by have := hb1.out.size; simp; omega)))
  clear hb2 hb1 hv1 C1
  go_wp2
  all_goals go_ret
  all_goals exact ⟨rfl, HB.out⟩

set_option maxHeartbeats 4000000 in
set_option maxRecDepth 100000 in
theorem good_7_false_n (s : ByteArray) (w : World) (hs : s.size ≤ 8796093022207) (hv : Vb w) (N : Nat) (hN : N ≤ 99) (P Q R : List UInt8) (hQ : Q.isEmpty = false) (hR : R.isEmpty = true) (hp : parseL s.data.toList = ({ verb := 7, nth := N, all := false, name := P, second := Q, text := R }, 0)) :
    Calls Tryd.prog 5 #[.string s] w fun e w' => e = .returned (.bool true) ∧ Below w.heap.size w w' := by
  have C1 := hide (fun w' h => parse_any s w' hs h)
  rw [hp] at C1
  simp only [Ord.cells] at C1
  have hbt := bs_toList
  have hv0 := hide hv
  clear hv hp
  go_enter Tryd.func5, Tryd.ntmps5
  go_wp2_with fail
  refine (C1.out _ hv0.out).mono ?_
  rintro e w1 ⟨rfl, hb1⟩
  have hv1 := hide (hv0.out.below hb1 (Nat.le_refl _))
  replace hb1 := hide hb1
  go_wp2_with fail
  refine (means_any _ (hv1.out.alloc _)).mono ?_
  rintro e w2 ⟨rfl, hb2⟩
  have c0 : w2.cell? ⟨w1.heap.size, 0, none⟩ = some _ := cells_kept hb2 0
  have c1 : w2.cell? ⟨w1.heap.size, 1, none⟩ = some _ := cells_kept hb2 1
  have c2 : w2.cell? ⟨w1.heap.size, 2, none⟩ = some _ := cells_kept hb2 2
  have c4 : w2.cell? ⟨w1.heap.size, 4, none⟩ = some _ := cells_kept hb2 4
  have c5 : w2.cell? ⟨w1.heap.size, 5, none⟩ = some _ := cells_kept hb2 5
  have HB := hide ((hb1.out.alloc hb1.out.size _).trans (hb2.mono (by have := hb1.out.size; simp; omega)))
  clear hb2 hb1 hv1 C1
  go_wp2
  all_goals go_ret
  all_goals exact ⟨rfl, HB.out⟩

set_option maxHeartbeats 4000000 in
set_option maxRecDepth 100000 in
theorem good_8_true_e (s : ByteArray) (w : World) (hs : s.size ≤ 8796093022207) (hv : Vb w) (N : Nat) (hN : N ≤ 99) (P Q R : List UInt8) (hQ : Q.isEmpty = true) (hR : R.isEmpty = true) (hp : parseL s.data.toList = ({ verb := 8, nth := N, all := true, name := P, second := Q, text := R }, 0)) :
    Calls Tryd.prog 5 #[.string s] w fun e w' => e = .returned (.bool true) ∧ Below w.heap.size w w' := by
  have C1 := hide (fun w' h => parse_any s w' hs h)
  rw [hp] at C1
  simp only [Ord.cells] at C1
  have hbt := bs_toList
  have hv0 := hide hv
  clear hv hp
  go_enter Tryd.func5, Tryd.ntmps5
  go_wp2_with fail
  refine (C1.out _ hv0.out).mono ?_
  rintro e w1 ⟨rfl, hb1⟩
  have hv1 := hide (hv0.out.below hb1 (Nat.le_refl _))
  replace hb1 := hide hb1
  go_wp2_with fail
  refine (means_any _ (hv1.out.alloc _)).mono ?_
  rintro e w2 ⟨rfl, hb2⟩
  have c0 : w2.cell? ⟨w1.heap.size, 0, none⟩ = some _ := cells_kept hb2 0
  have c1 : w2.cell? ⟨w1.heap.size, 1, none⟩ = some _ := cells_kept hb2 1
  have c2 : w2.cell? ⟨w1.heap.size, 2, none⟩ = some _ := cells_kept hb2 2
  have c4 : w2.cell? ⟨w1.heap.size, 4, none⟩ = some _ := cells_kept hb2 4
  have c5 : w2.cell? ⟨w1.heap.size, 5, none⟩ = some _ := cells_kept hb2 5
  have HB := hide ((hb1.out.alloc hb1.out.size _).trans (hb2.mono (by have := hb1.out.size; simp; omega)))
  clear hb2 hb1 hv1 C1
  go_wp2
  all_goals go_ret
  all_goals exact ⟨rfl, HB.out⟩

set_option maxHeartbeats 4000000 in
set_option maxRecDepth 100000 in
theorem good_8_false_e (s : ByteArray) (w : World) (hs : s.size ≤ 8796093022207) (hv : Vb w) (N : Nat) (hN : N ≤ 99) (P Q R : List UInt8) (hQ : Q.isEmpty = true) (hR : R.isEmpty = true) (hp : parseL s.data.toList = ({ verb := 8, nth := N, all := false, name := P, second := Q, text := R }, 0)) :
    Calls Tryd.prog 5 #[.string s] w fun e w' => e = .returned (.bool true) ∧ Below w.heap.size w w' := by
  have C1 := hide (fun w' h => parse_any s w' hs h)
  rw [hp] at C1
  simp only [Ord.cells] at C1
  have hbt := bs_toList
  have hv0 := hide hv
  clear hv hp
  go_enter Tryd.func5, Tryd.ntmps5
  go_wp2_with fail
  refine (C1.out _ hv0.out).mono ?_
  rintro e w1 ⟨rfl, hb1⟩
  have hv1 := hide (hv0.out.below hb1 (Nat.le_refl _))
  replace hb1 := hide hb1
  go_wp2_with fail
  refine (means_any _ (hv1.out.alloc _)).mono ?_
  rintro e w2 ⟨rfl, hb2⟩
  have c0 : w2.cell? ⟨w1.heap.size, 0, none⟩ = some _ := cells_kept hb2 0
  have c1 : w2.cell? ⟨w1.heap.size, 1, none⟩ = some _ := cells_kept hb2 1
  have c2 : w2.cell? ⟨w1.heap.size, 2, none⟩ = some _ := cells_kept hb2 2
  have c4 : w2.cell? ⟨w1.heap.size, 4, none⟩ = some _ := cells_kept hb2 4
  have c5 : w2.cell? ⟨w1.heap.size, 5, none⟩ = some _ := cells_kept hb2 5
  have HB := hide ((hb1.out.alloc hb1.out.size _).trans (hb2.mono (by have := hb1.out.size; simp; omega)))
  clear hb2 hb1 hv1 C1
  go_wp2
  all_goals go_ret
  all_goals exact ⟨rfl, HB.out⟩

set_option maxHeartbeats 4000000 in
set_option maxRecDepth 100000 in
theorem good_9_true_n (s : ByteArray) (w : World) (hs : s.size ≤ 8796093022207) (hv : Vb w) (N : Nat) (hN : N ≤ 99) (P Q R : List UInt8) (hQ : Q.isEmpty = false) (hR : R.isEmpty = true) (hp : parseL s.data.toList = ({ verb := 9, nth := N, all := true, name := P, second := Q, text := R }, 0)) :
    Calls Tryd.prog 5 #[.string s] w fun e w' => e = .returned (.bool true) ∧ Below w.heap.size w w' := by
  have C1 := hide (fun w' h => parse_any s w' hs h)
  rw [hp] at C1
  simp only [Ord.cells] at C1
  have hbt := bs_toList
  have hv0 := hide hv
  clear hv hp
  go_enter Tryd.func5, Tryd.ntmps5
  go_wp2_with fail
  refine (C1.out _ hv0.out).mono ?_
  rintro e w1 ⟨rfl, hb1⟩
  have hv1 := hide (hv0.out.below hb1 (Nat.le_refl _))
  replace hb1 := hide hb1
  go_wp2_with fail
  refine (means_any _ (hv1.out.alloc _)).mono ?_
  rintro e w2 ⟨rfl, hb2⟩
  have c0 : w2.cell? ⟨w1.heap.size, 0, none⟩ = some _ := cells_kept hb2 0
  have c1 : w2.cell? ⟨w1.heap.size, 1, none⟩ = some _ := cells_kept hb2 1
  have c2 : w2.cell? ⟨w1.heap.size, 2, none⟩ = some _ := cells_kept hb2 2
  have c4 : w2.cell? ⟨w1.heap.size, 4, none⟩ = some _ := cells_kept hb2 4
  have c5 : w2.cell? ⟨w1.heap.size, 5, none⟩ = some _ := cells_kept hb2 5
  have HB := hide ((hb1.out.alloc hb1.out.size _).trans (hb2.mono (by have := hb1.out.size; simp; omega)))
  clear hb2 hb1 hv1 C1
  go_wp2
  all_goals go_ret
  all_goals exact ⟨rfl, HB.out⟩

set_option maxHeartbeats 4000000 in
set_option maxRecDepth 100000 in
theorem good_9_false_n (s : ByteArray) (w : World) (hs : s.size ≤ 8796093022207) (hv : Vb w) (N : Nat) (hN : N ≤ 99) (P Q R : List UInt8) (hQ : Q.isEmpty = false) (hR : R.isEmpty = true) (hp : parseL s.data.toList = ({ verb := 9, nth := N, all := false, name := P, second := Q, text := R }, 0)) :
    Calls Tryd.prog 5 #[.string s] w fun e w' => e = .returned (.bool true) ∧ Below w.heap.size w w' := by
  have C1 := hide (fun w' h => parse_any s w' hs h)
  rw [hp] at C1
  simp only [Ord.cells] at C1
  have hbt := bs_toList
  have hv0 := hide hv
  clear hv hp
  go_enter Tryd.func5, Tryd.ntmps5
  go_wp2_with fail
  refine (C1.out _ hv0.out).mono ?_
  rintro e w1 ⟨rfl, hb1⟩
  have hv1 := hide (hv0.out.below hb1 (Nat.le_refl _))
  replace hb1 := hide hb1
  go_wp2_with fail
  refine (means_any _ (hv1.out.alloc _)).mono ?_
  rintro e w2 ⟨rfl, hb2⟩
  have c0 : w2.cell? ⟨w1.heap.size, 0, none⟩ = some _ := cells_kept hb2 0
  have c1 : w2.cell? ⟨w1.heap.size, 1, none⟩ = some _ := cells_kept hb2 1
  have c2 : w2.cell? ⟨w1.heap.size, 2, none⟩ = some _ := cells_kept hb2 2
  have c4 : w2.cell? ⟨w1.heap.size, 4, none⟩ = some _ := cells_kept hb2 4
  have c5 : w2.cell? ⟨w1.heap.size, 5, none⟩ = some _ := cells_kept hb2 5
  have HB := hide ((hb1.out.alloc hb1.out.size _).trans (hb2.mono (by have := hb1.out.size; simp; omega)))
  clear hb2 hb1 hv1 C1
  go_wp2
  all_goals go_ret
  all_goals exact ⟨rfl, HB.out⟩

set_option maxHeartbeats 4000000 in
set_option maxRecDepth 100000 in
theorem good_10_false_n (s : ByteArray) (w : World) (hs : s.size ≤ 8796093022207) (hv : Vb w) (N : Nat) (hN : N ≤ 99) (P Q R : List UInt8) (hQ : Q.isEmpty = false) (hR : R.isEmpty = true) (hp : parseL s.data.toList = ({ verb := 10, nth := N, all := false, name := P, second := Q, text := R }, 0)) :
    Calls Tryd.prog 5 #[.string s] w fun e w' => e = .returned (.bool true) ∧ Below w.heap.size w w' := by
  have C1 := hide (fun w' h => parse_any s w' hs h)
  rw [hp] at C1
  simp only [Ord.cells] at C1
  have hbt := bs_toList
  have hv0 := hide hv
  clear hv hp
  go_enter Tryd.func5, Tryd.ntmps5
  go_wp2_with fail
  refine (C1.out _ hv0.out).mono ?_
  rintro e w1 ⟨rfl, hb1⟩
  have hv1 := hide (hv0.out.below hb1 (Nat.le_refl _))
  replace hb1 := hide hb1
  go_wp2_with fail
  refine (means_any _ (hv1.out.alloc _)).mono ?_
  rintro e w2 ⟨rfl, hb2⟩
  have c0 : w2.cell? ⟨w1.heap.size, 0, none⟩ = some _ := cells_kept hb2 0
  have c1 : w2.cell? ⟨w1.heap.size, 1, none⟩ = some _ := cells_kept hb2 1
  have c2 : w2.cell? ⟨w1.heap.size, 2, none⟩ = some _ := cells_kept hb2 2
  have c4 : w2.cell? ⟨w1.heap.size, 4, none⟩ = some _ := cells_kept hb2 4
  have c5 : w2.cell? ⟨w1.heap.size, 5, none⟩ = some _ := cells_kept hb2 5
  have HB := hide ((hb1.out.alloc hb1.out.size _).trans (hb2.mono (by have := hb1.out.size; simp; omega)))
  clear hb2 hb1 hv1 C1
  go_wp2
  all_goals go_ret
  all_goals exact ⟨rfl, HB.out⟩

set_option maxHeartbeats 4000000 in
set_option maxRecDepth 100000 in
theorem good_11_false_e (s : ByteArray) (w : World) (hs : s.size ≤ 8796093022207) (hv : Vb w) (N : Nat) (hN : N ≤ 99) (P Q R : List UInt8) (hQ : Q.isEmpty = true) (hR : R.isEmpty = false) (hp : parseL s.data.toList = ({ verb := 11, nth := N, all := false, name := P, second := Q, text := R }, 0)) :
    Calls Tryd.prog 5 #[.string s] w fun e w' => e = .returned (.bool true) ∧ Below w.heap.size w w' := by
  have C1 := hide (fun w' h => parse_any s w' hs h)
  rw [hp] at C1
  simp only [Ord.cells] at C1
  have hbt := bs_toList
  have hv0 := hide hv
  clear hv hp
  go_enter Tryd.func5, Tryd.ntmps5
  go_wp2_with fail
  refine (C1.out _ hv0.out).mono ?_
  rintro e w1 ⟨rfl, hb1⟩
  have hv1 := hide (hv0.out.below hb1 (Nat.le_refl _))
  replace hb1 := hide hb1
  go_wp2_with fail
  refine (means_any _ (hv1.out.alloc _)).mono ?_
  rintro e w2 ⟨rfl, hb2⟩
  have c0 : w2.cell? ⟨w1.heap.size, 0, none⟩ = some _ := cells_kept hb2 0
  have c1 : w2.cell? ⟨w1.heap.size, 1, none⟩ = some _ := cells_kept hb2 1
  have c2 : w2.cell? ⟨w1.heap.size, 2, none⟩ = some _ := cells_kept hb2 2
  have c4 : w2.cell? ⟨w1.heap.size, 4, none⟩ = some _ := cells_kept hb2 4
  have c5 : w2.cell? ⟨w1.heap.size, 5, none⟩ = some _ := cells_kept hb2 5
  have HB := hide ((hb1.out.alloc hb1.out.size _).trans (hb2.mono (by have := hb1.out.size; simp; omega)))
  clear hb2 hb1 hv1 C1
  go_wp2
  all_goals go_ret
  all_goals exact ⟨rfl, HB.out⟩

set_option maxHeartbeats 4000000 in
set_option maxRecDepth 100000 in
theorem good_other (s : ByteArray) (w : World) (hs : s.size ≤ 8796093022207) (hv : Vb w) (V : Nat) (hV : V ≤ 20) (b7 : ((V : Int) == 7) = false) (b8 : ((V : Int) == 8) = false) (b9 : ((V : Int) == 9) = false) (b10 : ((V : Int) == 10) = false) (b11 : ((V : Int) == 11) = false) (n7 : ((V : Int) != 7) = true) (n8 : ((V : Int) != 8) = true) (n9 : ((V : Int) != 9) = true) (n10 : ((V : Int) != 10) = true) (N : Nat) (hN : N ≤ 99) (P Q R : List UInt8) (hQ : Q.isEmpty = true) (hR : R.isEmpty = true) (hp : parseL s.data.toList = ({ verb := V, nth := N, all := false, name := P, second := Q, text := R }, 0)) :
    Calls Tryd.prog 5 #[.string s] w fun e w' => e = .returned (.bool true) ∧ Below w.heap.size w w' := by
  have C1 := hide (fun w' h => parse_any s w' hs h)
  rw [hp] at C1
  simp only [Ord.cells] at C1
  have hbt := bs_toList
  have hv0 := hide hv
  clear hv hp
  go_enter Tryd.func5, Tryd.ntmps5
  go_wp2_with fail
  refine (C1.out _ hv0.out).mono ?_
  rintro e w1 ⟨rfl, hb1⟩
  have hv1 := hide (hv0.out.below hb1 (Nat.le_refl _))
  replace hb1 := hide hb1
  go_wp2_with fail
  refine (means_any _ (hv1.out.alloc _)).mono ?_
  rintro e w2 ⟨rfl, hb2⟩
  have c0 : w2.cell? ⟨w1.heap.size, 0, none⟩ = some _ := cells_kept hb2 0
  have c1 : w2.cell? ⟨w1.heap.size, 1, none⟩ = some _ := cells_kept hb2 1
  have c2 : w2.cell? ⟨w1.heap.size, 2, none⟩ = some _ := cells_kept hb2 2
  have c4 : w2.cell? ⟨w1.heap.size, 4, none⟩ = some _ := cells_kept hb2 4
  have c5 : w2.cell? ⟨w1.heap.size, 5, none⟩ = some _ := cells_kept hb2 5
  have HB := hide ((hb1.out.alloc hb1.out.size _).trans (hb2.mono (by have := hb1.out.size; simp; omega)))
  clear hb2 hb1 hv1 C1
  go_wp2
  all_goals go_ret
  all_goals exact ⟨rfl, HB.out⟩

end Go.Proofs.YtfbgaimjjfmfaadDoor
