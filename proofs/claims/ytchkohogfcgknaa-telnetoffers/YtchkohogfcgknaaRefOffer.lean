/-
  The contracts of OfferOption and AskOption of the document's own answer.
-/
import Derived.Test.YtchkohogfcgknaaOffer
import Derived.Test.YtchkohogfcgknaaRefGood
import Derived.Test.YtchkohogfcgknaaRefBytes
namespace Go.Proofs.Ytchkohogfcgknaa
open Go.RowKit
set_option linter.unusedVariables false

theorem new_world {w w1 w3 : World} {t : Tel} (t' : Tel) {o : Obj} {f : Nat} {v : Value} (k1 : Cod w1 w.heap.size t) (r1 : Cod w1 (w.heap.size + 1) zt) (l1 : Below w.heap.size w w1)
    (hb3 : Below (((w1.setCell ⟨w.heap.size, f, none⟩ v).alloc o).drew).heap.size (((w1.setCell ⟨w.heap.size, f, none⟩ v).alloc o).drew) w3) (hc : t.cells.setIfInBounds f v = t'.cells) :
    Cod w3 w.heap.size t' ∧ Cod w3 (w.heap.size + 1) zt ∧ Below w.heap.size w w3 := by
  have z := r1.lt
  have hz : w.heap.size + 1 < (((w1.setCell ⟨w.heap.size, f, none⟩ v).alloc o).drew).heap.size := by simp; omega
  refine ⟨cod_mk (cod_below (cod_drew (cod_alloc (cod_set k1 f v) o)) hb3 (by omega)) hc, cod_mk (cod_below (cod_drew (cod_alloc (cod_ne r1 (by omega) f v) o)) hb3 hz) rfl, ?_⟩
  refine (((l1.setCell (Nat.le_refl _) v).alloc ?_ o).drew).trans (hb3.mono (by omega))
  simp; omega

set_option maxRecDepth 100000 in
set_option maxHeartbeats 1000000 in
theorem roffer_bad (t : Tel) (o : Int) (w : World) (hs : t.sub.size ≤ maxLen) (hg : good t = false) :
    Calls Try.prog 17 #[t.val, .int .i64 o] w fun e w' => e = .returned (.tuple #[t.val, .string ⟨#[]⟩, .int .i64 2]) ∧ Below w.heap.size w w' := by
  unfold Tel.val Tel.cells
  go_enter Try.func17, Try.ntmps17
  go_wp2_with fail
  refine (refgood_any t _ hs).mono ?_
  rintro e w1 ⟨rfl, hb1⟩
  obtain ⟨k1, r1, l1⟩ := start_world hb1 (by simp)
  clear hb1
  have z1 := r1.lt
  have y1 := k1.lt
  obtain ⟨c0, c1, c2, c3, c4, c5, c6, c7, c8, c9, cfz⟩ := k1.all
  obtain ⟨d0, d1, d2, d3, d4, d5, d6, d7, d8, d9, dfz⟩ := r1.all
  go_wp2
  exact bodyPost_ret (res3 Try.results17 rfl rfl rfl (cod_ten r1)) rfl ⟨rfl, below_ten l1 (by omega)⟩

set_option maxRecDepth 100000 in
set_option maxHeartbeats 1000000 in
theorem roffer_none (t : Tel) (o : Int) (w : World) (hs : t.sub.size ≤ maxLen) (hg : good t = true) (e1 : (o == 1) = false) (e2 : (o == 3) = false) :
    Calls Try.prog 17 #[t.val, .int .i64 o] w fun e w' => e = .returned (.tuple #[t.val, .string ⟨#[]⟩, .int .i64 3]) ∧ Below w.heap.size w w' := by
  have n1 : (o != 1) = true := by simpa using e1
  have n2 : (o != 3) = true := by simpa using e2
  unfold Tel.val Tel.cells
  go_enter Try.func17, Try.ntmps17
  go_wp2_with fail
  refine (refgood_any t _ hs).mono ?_
  rintro e w1 ⟨rfl, hb1⟩
  obtain ⟨k1, r1, l1⟩ := start_world hb1 (by simp)
  clear hb1
  have z1 := r1.lt
  have y1 := k1.lt
  obtain ⟨c0, c1, c2, c3, c4, c5, c6, c7, c8, c9, cfz⟩ := k1.all
  obtain ⟨d0, d1, d2, d3, d4, d5, d6, d7, d8, d9, dfz⟩ := r1.all
  go_wp2
  exact bodyPost_ret (res3 Try.results17 rfl rfl rfl (cod_ten r1)) rfl ⟨rfl, below_ten l1 (by omega)⟩

set_option maxRecDepth 100000 in
set_option maxHeartbeats 1000000 in
theorem roffer_set1 (t : Tel) (w : World) (hs : t.sub.size ≤ maxLen) (hg : good t = true) (hn : (t.u0 != 0) = true) :
    Calls Try.prog 17 #[t.val, .int .i64 1] w fun e w' => e = .returned (.tuple #[t.val, .string ⟨#[]⟩, .int .i64 0]) ∧ Below w.heap.size w w' := by
  unfold Tel.val Tel.cells
  go_enter Try.func17, Try.ntmps17
  go_wp2_with fail
  refine (refgood_any t _ hs).mono ?_
  rintro e w1 ⟨rfl, hb1⟩
  obtain ⟨k1, r1, l1⟩ := start_world hb1 (by simp)
  clear hb1
  have z1 := r1.lt
  have y1 := k1.lt
  obtain ⟨c0, c1, c2, c3, c4, c5, c6, c7, c8, c9, cfz⟩ := k1.all
  obtain ⟨d0, d1, d2, d3, d4, d5, d6, d7, d8, d9, dfz⟩ := r1.all
  go_wp2
  exact bodyPost_ret (res3 Try.results17 rfl rfl rfl (cod_ten r1)) rfl ⟨rfl, below_ten l1 (by omega)⟩

set_option maxRecDepth 100000 in
set_option maxHeartbeats 1000000 in
theorem roffer_new1 (t : Tel) (w : World) (hs : t.sub.size ≤ maxLen) (hg : good t = true) (hn : t.u0 = 0) :
    Calls Try.prog 17 #[t.val, .int .i64 1] w fun e w' => e = .returned (.tuple #[({ t with u0 := 2 } : Tel).val, .string (sayB 251 1), .int .i64 0]) ∧ Below w.heap.size w w' := by
  have HN := hide hn
  clear hn
  unfold Tel.val Tel.cells
  go_enter Try.func17, Try.ntmps17
  go_wp2_with fail
  refine (refgood_any t _ hs).mono ?_
  rintro e w1 ⟨rfl, hb1⟩
  obtain ⟨k1, r1, l1⟩ := start_world hb1 (by simp)
  clear hb1
  have z1 := r1.lt
  have y1 := k1.lt
  obtain ⟨c0, c1, c2, c3, c4, c5, c6, c7, c8, c9, cfz⟩ := k1.all
  obtain ⟨d0, d1, d2, d3, d4, d5, d6, d7, d8, d9, dfz⟩ := r1.all
  rw [HN.out] at c3
  go_wp2_with fail
  go_region_with (go_at_call 26; refine (bytesOf3 _ 251 1 (by omega) (by omega) (by omega) (by omega) _ ?_ ?_ ?_ ?_).mono ?_; (go_simp); (go_simp); (go_simp); (go_simp); rintro e w3 ⟨rfl, hb3⟩; obtain ⟨k3, r3, l3⟩ := new_world { t with u0 := 2 } k1 r1 l1 hb3 rfl; have z3 := r3.lt; have z4 := k3.lt; obtain ⟨x0, x1, x2, x3, x4, x5, x6, x7, x8, x9, xfz⟩ := k3.all; obtain ⟨y0, y1, y2, y3, y4, y5, y6, y7, y8, y9, yfz⟩ := r3.all)
  all_goals go_wp2
  all_goals exact bodyPost_ret (res3 Try.results17 rfl rfl rfl (cod_ten (t := { t with u0 := 2 }) r3)) rfl ⟨rfl, below_ten (t := { t with u0 := 2 }) l3 (by omega)⟩

set_option maxRecDepth 100000 in
set_option maxHeartbeats 1000000 in
theorem roffer_set3 (t : Tel) (w : World) (hs : t.sub.size ≤ maxLen) (hg : good t = true) (hn : (t.u1 != 0) = true) :
    Calls Try.prog 17 #[t.val, .int .i64 3] w fun e w' => e = .returned (.tuple #[t.val, .string ⟨#[]⟩, .int .i64 0]) ∧ Below w.heap.size w w' := by
  unfold Tel.val Tel.cells
  go_enter Try.func17, Try.ntmps17
  go_wp2_with fail
  refine (refgood_any t _ hs).mono ?_
  rintro e w1 ⟨rfl, hb1⟩
  obtain ⟨k1, r1, l1⟩ := start_world hb1 (by simp)
  clear hb1
  have z1 := r1.lt
  have y1 := k1.lt
  obtain ⟨c0, c1, c2, c3, c4, c5, c6, c7, c8, c9, cfz⟩ := k1.all
  obtain ⟨d0, d1, d2, d3, d4, d5, d6, d7, d8, d9, dfz⟩ := r1.all
  go_wp2
  exact bodyPost_ret (res3 Try.results17 rfl rfl rfl (cod_ten r1)) rfl ⟨rfl, below_ten l1 (by omega)⟩

set_option maxRecDepth 100000 in
set_option maxHeartbeats 1000000 in
theorem roffer_new3 (t : Tel) (w : World) (hs : t.sub.size ≤ maxLen) (hg : good t = true) (hn : t.u1 = 0) :
    Calls Try.prog 17 #[t.val, .int .i64 3] w fun e w' => e = .returned (.tuple #[({ t with u1 := 2 } : Tel).val, .string (sayB 251 3), .int .i64 0]) ∧ Below w.heap.size w w' := by
  have HN := hide hn
  clear hn
  unfold Tel.val Tel.cells
  go_enter Try.func17, Try.ntmps17
  go_wp2_with fail
  refine (refgood_any t _ hs).mono ?_
  rintro e w1 ⟨rfl, hb1⟩
  obtain ⟨k1, r1, l1⟩ := start_world hb1 (by simp)
  clear hb1
  have z1 := r1.lt
  have y1 := k1.lt
  obtain ⟨c0, c1, c2, c3, c4, c5, c6, c7, c8, c9, cfz⟩ := k1.all
  obtain ⟨d0, d1, d2, d3, d4, d5, d6, d7, d8, d9, dfz⟩ := r1.all
  rw [HN.out] at c4
  go_wp2_with fail
  go_region_with (go_at_call 26; refine (bytesOf3 _ 251 3 (by omega) (by omega) (by omega) (by omega) _ ?_ ?_ ?_ ?_).mono ?_; (go_simp); (go_simp); (go_simp); (go_simp); rintro e w3 ⟨rfl, hb3⟩; obtain ⟨k3, r3, l3⟩ := new_world { t with u1 := 2 } k1 r1 l1 hb3 rfl; have z3 := r3.lt; have z4 := k3.lt; obtain ⟨x0, x1, x2, x3, x4, x5, x6, x7, x8, x9, xfz⟩ := k3.all; obtain ⟨y0, y1, y2, y3, y4, y5, y6, y7, y8, y9, yfz⟩ := r3.all)
  all_goals go_wp2
  all_goals exact bodyPost_ret (res3 Try.results17 rfl rfl rfl (cod_ten (t := { t with u1 := 2 }) r3)) rfl ⟨rfl, below_ten (t := { t with u1 := 2 }) l3 (by omega)⟩

set_option maxRecDepth 100000 in
set_option maxHeartbeats 1000000 in
theorem rask_bad (t : Tel) (o : Int) (w : World) (hs : t.sub.size ≤ maxLen) (hg : good t = false) :
    Calls Try.prog 19 #[t.val, .int .i64 o] w fun e w' => e = .returned (.tuple #[t.val, .string ⟨#[]⟩, .int .i64 2]) ∧ Below w.heap.size w w' := by
  unfold Tel.val Tel.cells
  go_enter Try.func19, Try.ntmps19
  go_wp2_with fail
  refine (refgood_any t _ hs).mono ?_
  rintro e w1 ⟨rfl, hb1⟩
  obtain ⟨k1, r1, l1⟩ := start_world hb1 (by simp)
  clear hb1
  have z1 := r1.lt
  have y1 := k1.lt
  obtain ⟨c0, c1, c2, c3, c4, c5, c6, c7, c8, c9, cfz⟩ := k1.all
  obtain ⟨d0, d1, d2, d3, d4, d5, d6, d7, d8, d9, dfz⟩ := r1.all
  go_wp2
  exact bodyPost_ret (res3 Try.results19 rfl rfl rfl (cod_ten r1)) rfl ⟨rfl, below_ten l1 (by omega)⟩

set_option maxRecDepth 100000 in
set_option maxHeartbeats 1000000 in
theorem rask_none (t : Tel) (o : Int) (w : World) (hs : t.sub.size ≤ maxLen) (hg : good t = true) (e1 : (o == 3) = false) (e2 : (o == 31) = false) :
    Calls Try.prog 19 #[t.val, .int .i64 o] w fun e w' => e = .returned (.tuple #[t.val, .string ⟨#[]⟩, .int .i64 3]) ∧ Below w.heap.size w w' := by
  have n1 : (o != 3) = true := by simpa using e1
  have n2 : (o != 31) = true := by simpa using e2
  unfold Tel.val Tel.cells
  go_enter Try.func19, Try.ntmps19
  go_wp2_with fail
  refine (refgood_any t _ hs).mono ?_
  rintro e w1 ⟨rfl, hb1⟩
  obtain ⟨k1, r1, l1⟩ := start_world hb1 (by simp)
  clear hb1
  have z1 := r1.lt
  have y1 := k1.lt
  obtain ⟨c0, c1, c2, c3, c4, c5, c6, c7, c8, c9, cfz⟩ := k1.all
  obtain ⟨d0, d1, d2, d3, d4, d5, d6, d7, d8, d9, dfz⟩ := r1.all
  go_wp2
  exact bodyPost_ret (res3 Try.results19 rfl rfl rfl (cod_ten r1)) rfl ⟨rfl, below_ten l1 (by omega)⟩

set_option maxRecDepth 100000 in
set_option maxHeartbeats 1000000 in
theorem rask_set3 (t : Tel) (w : World) (hs : t.sub.size ≤ maxLen) (hg : good t = true) (hn : (t.t1 != 0) = true) :
    Calls Try.prog 19 #[t.val, .int .i64 3] w fun e w' => e = .returned (.tuple #[t.val, .string ⟨#[]⟩, .int .i64 0]) ∧ Below w.heap.size w w' := by
  unfold Tel.val Tel.cells
  go_enter Try.func19, Try.ntmps19
  go_wp2_with fail
  refine (refgood_any t _ hs).mono ?_
  rintro e w1 ⟨rfl, hb1⟩
  obtain ⟨k1, r1, l1⟩ := start_world hb1 (by simp)
  clear hb1
  have z1 := r1.lt
  have y1 := k1.lt
  obtain ⟨c0, c1, c2, c3, c4, c5, c6, c7, c8, c9, cfz⟩ := k1.all
  obtain ⟨d0, d1, d2, d3, d4, d5, d6, d7, d8, d9, dfz⟩ := r1.all
  go_wp2
  exact bodyPost_ret (res3 Try.results19 rfl rfl rfl (cod_ten r1)) rfl ⟨rfl, below_ten l1 (by omega)⟩

set_option maxRecDepth 100000 in
set_option maxHeartbeats 1000000 in
theorem rask_new3 (t : Tel) (w : World) (hs : t.sub.size ≤ maxLen) (hg : good t = true) (hn : t.t1 = 0) :
    Calls Try.prog 19 #[t.val, .int .i64 3] w fun e w' => e = .returned (.tuple #[({ t with t1 := 2 } : Tel).val, .string (sayB 253 3), .int .i64 0]) ∧ Below w.heap.size w w' := by
  have HN := hide hn
  clear hn
  unfold Tel.val Tel.cells
  go_enter Try.func19, Try.ntmps19
  go_wp2_with fail
  refine (refgood_any t _ hs).mono ?_
  rintro e w1 ⟨rfl, hb1⟩
  obtain ⟨k1, r1, l1⟩ := start_world hb1 (by simp)
  clear hb1
  have z1 := r1.lt
  have y1 := k1.lt
  obtain ⟨c0, c1, c2, c3, c4, c5, c6, c7, c8, c9, cfz⟩ := k1.all
  obtain ⟨d0, d1, d2, d3, d4, d5, d6, d7, d8, d9, dfz⟩ := r1.all
  rw [HN.out] at c7
  go_wp2_with fail
  go_region_with (go_at_call 26; refine (bytesOf3 _ 253 3 (by omega) (by omega) (by omega) (by omega) _ ?_ ?_ ?_ ?_).mono ?_; (go_simp); (go_simp); (go_simp); (go_simp); rintro e w3 ⟨rfl, hb3⟩; obtain ⟨k3, r3, l3⟩ := new_world { t with t1 := 2 } k1 r1 l1 hb3 rfl; have z3 := r3.lt; have z4 := k3.lt; obtain ⟨x0, x1, x2, x3, x4, x5, x6, x7, x8, x9, xfz⟩ := k3.all; obtain ⟨y0, y1, y2, y3, y4, y5, y6, y7, y8, y9, yfz⟩ := r3.all)
  all_goals go_wp2
  all_goals exact bodyPost_ret (res3 Try.results19 rfl rfl rfl (cod_ten (t := { t with t1 := 2 }) r3)) rfl ⟨rfl, below_ten (t := { t with t1 := 2 }) l3 (by omega)⟩

set_option maxRecDepth 100000 in
set_option maxHeartbeats 1000000 in
theorem rask_set31 (t : Tel) (w : World) (hs : t.sub.size ≤ maxLen) (hg : good t = true) (hn : (t.t2 != 0) = true) :
    Calls Try.prog 19 #[t.val, .int .i64 31] w fun e w' => e = .returned (.tuple #[t.val, .string ⟨#[]⟩, .int .i64 0]) ∧ Below w.heap.size w w' := by
  unfold Tel.val Tel.cells
  go_enter Try.func19, Try.ntmps19
  go_wp2_with fail
  refine (refgood_any t _ hs).mono ?_
  rintro e w1 ⟨rfl, hb1⟩
  obtain ⟨k1, r1, l1⟩ := start_world hb1 (by simp)
  clear hb1
  have z1 := r1.lt
  have y1 := k1.lt
  obtain ⟨c0, c1, c2, c3, c4, c5, c6, c7, c8, c9, cfz⟩ := k1.all
  obtain ⟨d0, d1, d2, d3, d4, d5, d6, d7, d8, d9, dfz⟩ := r1.all
  go_wp2
  exact bodyPost_ret (res3 Try.results19 rfl rfl rfl (cod_ten r1)) rfl ⟨rfl, below_ten l1 (by omega)⟩

set_option maxRecDepth 100000 in
set_option maxHeartbeats 1000000 in
theorem rask_new31 (t : Tel) (w : World) (hs : t.sub.size ≤ maxLen) (hg : good t = true) (hn : t.t2 = 0) :
    Calls Try.prog 19 #[t.val, .int .i64 31] w fun e w' => e = .returned (.tuple #[({ t with t2 := 2 } : Tel).val, .string (sayB 253 31), .int .i64 0]) ∧ Below w.heap.size w w' := by
  have HN := hide hn
  clear hn
  unfold Tel.val Tel.cells
  go_enter Try.func19, Try.ntmps19
  go_wp2_with fail
  refine (refgood_any t _ hs).mono ?_
  rintro e w1 ⟨rfl, hb1⟩
  obtain ⟨k1, r1, l1⟩ := start_world hb1 (by simp)
  clear hb1
  have z1 := r1.lt
  have y1 := k1.lt
  obtain ⟨c0, c1, c2, c3, c4, c5, c6, c7, c8, c9, cfz⟩ := k1.all
  obtain ⟨d0, d1, d2, d3, d4, d5, d6, d7, d8, d9, dfz⟩ := r1.all
  rw [HN.out] at c8
  go_wp2_with fail
  go_region_with (go_at_call 26; refine (bytesOf3 _ 253 31 (by omega) (by omega) (by omega) (by omega) _ ?_ ?_ ?_ ?_).mono ?_; (go_simp); (go_simp); (go_simp); (go_simp); rintro e w3 ⟨rfl, hb3⟩; obtain ⟨k3, r3, l3⟩ := new_world { t with t2 := 2 } k1 r1 l1 hb3 rfl; have z3 := r3.lt; have z4 := k3.lt; obtain ⟨x0, x1, x2, x3, x4, x5, x6, x7, x8, x9, xfz⟩ := k3.all; obtain ⟨y0, y1, y2, y3, y4, y5, y6, y7, y8, y9, yfz⟩ := r3.all)
  all_goals go_wp2
  all_goals exact bodyPost_ret (res3 Try.results19 rfl rfl rfl (cod_ten (t := { t with t2 := 2 }) r3)) rfl ⟨rfl, below_ten (t := { t with t2 := 2 }) l3 (by omega)⟩

end Go.Proofs.Ytchkohogfcgknaa
