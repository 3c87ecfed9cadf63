/-
  The contracts of propose, Offer and Ask of package telnet.
-/
import Derived.Test.YtbjcmnemcgadjaaInv
namespace Go.Proofs.Ytbjcmnemcgadjaa
open Go.RowKit
set_option linter.unusedVariables false

theorem propose_nil (v o : Int) (w : World) : Calls Try.prog 30 #[.pointer none, .int .i64 v, .int .i64 o] w fun e w' => e = .returned (.tuple #[.string ⟨#[]⟩, .int .i64 3]) ∧ w' = w := by
  go_enter Try.func30, Try.ntmps30
  go_wp2
  go_ret2
  exact ⟨rfl, rfl⟩

theorem propose_set (b f : Nat) (v o n : Int) (hn : (n != 0) = true) (w : World) (hc : w.cell? ⟨b, f, none⟩ = some (.int .i64 n)) :
    Calls Try.prog 30 #[.pointer (some ⟨b, f, none⟩), .int .i64 v, .int .i64 o] w fun e w' => e = .returned (.tuple #[.string ⟨#[]⟩, .int .i64 0]) ∧ w' = w := by
  go_enter Try.func30, Try.ntmps30
  go_wp2
  go_ret2
  exact ⟨rfl, rfl⟩

theorem propose_no (b f : Nat) (v o : Int) (hv : 0 ≤ v) (hv' : v ≤ 255) (ho : 0 ≤ o) (ho' : o ≤ 255) (w : World) (hc : w.cell? ⟨b, f, none⟩ = some (.int .i64 0)) (hf : w.frozen? ⟨b, f, none⟩ = false) :
    Calls Try.prog 30 #[.pointer (some ⟨b, f, none⟩), .int .i64 v, .int .i64 o] w fun e w' => e = .returned (.tuple #[.string (sayB v o), .int .i64 0]) ∧ Below w.heap.size (w.setCell ⟨b, f, none⟩ (.int .i64 2)) w' := by
  go_enter Try.func30, Try.ntmps30
  go_wp2_with (go_at_call 37; refine (say_any _ _ hv hv' ho ho' _).mono ?_; rintro e w' ⟨rfl, hb⟩)
  go_ret2
  exact ⟨rfl, hb.mono (by simp)⟩

/-- The worlds of Offer and Ask behind the call of Good. -/
theorem start_world {w w1 : World} {t : Tel} {B : Nat} (hb1 : Below B ((w.alloc (.cells t.cells 25)).alloc (.cells zt.cells 25)) w1) (hB : w.heap.size + 1 < B) :
    Cod w1 w.heap.size t ∧ Cod w1 (w.heap.size + 1) zt ∧ Below w.heap.size w w1 := by
  refine ⟨?_, ?_, (((Below.refl _ _).alloc (Nat.le_refl _) _).alloc (by simp) _).trans (hb1.mono (by omega))⟩
  · unfold Cod; rw [hb1.block _ (by omega), Below.heap_alloc _ _ _ (by simp)]; exact heap_alloc_new w _
  · have := heap_alloc_new (w.alloc (.cells t.cells 25)) (.cells zt.cells 25)
    rw [World.size_alloc] at this
    unfold Cod; rw [hb1.block _ hB]; exact this

theorem cod_ne {w : World} {b c : Nat} {cs : Array Value} (h : w.heap[c]? = some (.cells cs 25 (0, 0))) (hne : c ≠ b) (o : Nat) (v : Value) :
    (w.setCell ⟨b, o, none⟩ v).heap[c]? = some (.cells cs 25 (0, 0)) := by
  rw [Below.heap_setCell _ _ _ _ hne]; exact h

set_option maxRecDepth 100000 in
set_option maxHeartbeats 400000 in
theorem offer_bad (t : Tel) (o : Int) (w : World) (hs : t.sub.size ≤ maxLen) (hg : good t = false) :
    Calls Try.prog 16 #[t.val, .int .i64 o] w fun e w' => e = .returned (.tuple #[t.val, .string ⟨#[]⟩, .int .i64 2]) ∧ Below w.heap.size w w' := by
  unfold Tel.val Tel.cells
  go_enter Try.func16, Try.ntmps16
  go_wp2_with fail
  refine (good_any t _ hs).mono ?_
  rintro e w1 ⟨rfl, hb1⟩
  obtain ⟨k1, r1, l1⟩ := start_world hb1 (by simp)
  clear hb1
  have z1 := r1.lt
  obtain ⟨c0, c1, c2, c3, c4, c5, c6, c7, c8, c9, cfz⟩ := k1.all
  obtain ⟨d0, d1, d2, d3, d4, d5, d6, d7, d8, d9, dfz⟩ := r1.all
  go_wp2
  exact bodyPost_ret (res3 Try.results16 rfl rfl rfl (cod_ten r1)) rfl ⟨rfl, below_ten l1 (by omega)⟩

set_option maxRecDepth 100000 in
set_option maxHeartbeats 400000 in
theorem offer_none (t : Tel) (o : Int) (w : World) (hs : t.sub.size ≤ maxLen) (hg : good t = true) (e1 : (o == 1) = false) (e2 : (o == 3) = false) :
    Calls Try.prog 16 #[t.val, .int .i64 o] w fun e w' => e = .returned (.tuple #[t.val, .string ⟨#[]⟩, .int .i64 3]) ∧ Below w.heap.size w w' := by
  unfold Tel.val Tel.cells
  go_enter Try.func16, Try.ntmps16
  go_wp2_with fail
  refine (good_any t _ hs).mono ?_
  rintro e w1 ⟨rfl, hb1⟩
  obtain ⟨k1, r1, l1⟩ := start_world hb1 (by simp)
  clear hb1
  have z1 := r1.lt
  obtain ⟨c0, c1, c2, c3, c4, c5, c6, c7, c8, c9, cfz⟩ := k1.all
  obtain ⟨d0, d1, d2, d3, d4, d5, d6, d7, d8, d9, dfz⟩ := r1.all
  go_wp2_with fail
  refine (ours_no w.heap.size o e1 e2 _).mono ?_
  rintro e w2 ⟨rfl, n, rfl⟩
  go_wp2_with fail
  refine (propose_nil _ _ _).mono ?_
  rintro e w2 ⟨rfl, rfl⟩
  go_wp2
  exact bodyPost_ret (res3 Try.results16 rfl rfl rfl (cod_ten (cod_mk (cod_drewN r1 n) rfl))) rfl ⟨rfl, below_ten (below_drewN l1 n) (by omega)⟩

set_option maxRecDepth 100000 in
set_option maxHeartbeats 400000 in
theorem offer_set1 (t : Tel) (w : World) (hs : t.sub.size ≤ maxLen) (hg : good t = true) (hn : (t.u0 != 0) = true) :
    Calls Try.prog 16 #[t.val, .int .i64 1] w fun e w' => e = .returned (.tuple #[t.val, .string ⟨#[]⟩, .int .i64 0]) ∧ Below w.heap.size w w' := by
  unfold Tel.val Tel.cells
  go_enter Try.func16, Try.ntmps16
  go_wp2_with fail
  refine (good_any t _ hs).mono ?_
  rintro e w1 ⟨rfl, hb1⟩
  obtain ⟨k1, r1, l1⟩ := start_world hb1 (by simp)
  clear hb1
  have z1 := r1.lt
  obtain ⟨c0, c1, c2, c3, c4, c5, c6, c7, c8, c9, cfz⟩ := k1.all
  obtain ⟨d0, d1, d2, d3, d4, d5, d6, d7, d8, d9, dfz⟩ := r1.all
  go_wp2_with fail
  refine (ours_1 w.heap.size _).mono ?_
  rintro e w2 ⟨rfl, n, rfl⟩
  go_wp2_with fail
  refine (propose_set w.heap.size 3 251 1 t.u0 hn _ (by go_simp)).mono ?_
  rintro e w2 ⟨rfl, rfl⟩
  go_wp2
  exact bodyPost_ret (res3 Try.results16 rfl rfl rfl (cod_ten (cod_mk (cod_drewN r1 n) rfl))) rfl ⟨rfl, below_ten (below_drewN l1 n) (by omega)⟩

set_option maxRecDepth 100000 in
set_option maxHeartbeats 400000 in
theorem offer_new1 (t : Tel) (w : World) (hs : t.sub.size ≤ maxLen) (hg : good t = true) (hn : t.u0 = 0) :
    Calls Try.prog 16 #[t.val, .int .i64 1] w fun e w' => e = .returned (.tuple #[({ t with u0 := 2 } : Tel).val, .string (sayB 251 1), .int .i64 0]) ∧ Below w.heap.size w w' := by
  have HN := hide hn
  clear hn
  unfold Tel.val Tel.cells
  go_enter Try.func16, Try.ntmps16
  go_wp2_with fail
  refine (good_any t _ hs).mono ?_
  rintro e w1 ⟨rfl, hb1⟩
  obtain ⟨k1, r1, l1⟩ := start_world hb1 (by simp)
  clear hb1
  have z1 := r1.lt
  obtain ⟨c0, c1, c2, c3, c4, c5, c6, c7, c8, c9, cfz⟩ := k1.all
  obtain ⟨d0, d1, d2, d3, d4, d5, d6, d7, d8, d9, dfz⟩ := r1.all
  rw [HN.out] at c3
  go_wp2_with fail
  refine (ours_1 w.heap.size _).mono ?_
  rintro e w2 ⟨rfl, n, rfl⟩
  go_wp2_with fail
  refine (propose_no w.heap.size 3 251 1 (by omega) (by omega) (by omega) (by omega) _ (by go_simp) (by go_simp)).mono ?_
  rintro e w3 ⟨rfl, hb3⟩
  have k3 : Cod w3 w.heap.size { t with u0 := 2 } := cod_mk (cod_below (cod_set (cod_drewN k1 n) _ _) hb3 (by simp; omega)) rfl
  have r3 : Cod w3 (w.heap.size + 1) zt := cod_mk (cod_below (cod_ne (cod_drewN r1 n) (by omega) _ _) hb3 (by simp; omega)) rfl
  have l3 : Below w.heap.size w w3 := ((below_drewN l1 n).setCell (by simp) _).trans (hb3.mono (by simp; omega))
  clear hb3 k1 r1 l1 c0 c1 c2 c3 c4 c5 c6 c7 c8 c9 cfz d0 d1 d2 d3 d4 d5 d6 d7 d8 d9 dfz
  have z3 := r3.lt
  obtain ⟨c0, c1, c2, c3, c4, c5, c6, c7, c8, c9, cfz⟩ := k3.all
  obtain ⟨d0, d1, d2, d3, d4, d5, d6, d7, d8, d9, dfz⟩ := r3.all
  go_wp2
  exact bodyPost_ret (res3 Try.results16 rfl rfl rfl (cod_ten (t := { t with u0 := 2 }) r3)) rfl ⟨rfl, below_ten (t := { t with u0 := 2 }) l3 (by omega)⟩

set_option maxRecDepth 100000 in
set_option maxHeartbeats 400000 in
theorem offer_set3 (t : Tel) (w : World) (hs : t.sub.size ≤ maxLen) (hg : good t = true) (hn : (t.u1 != 0) = true) :
    Calls Try.prog 16 #[t.val, .int .i64 3] w fun e w' => e = .returned (.tuple #[t.val, .string ⟨#[]⟩, .int .i64 0]) ∧ Below w.heap.size w w' := by
  unfold Tel.val Tel.cells
  go_enter Try.func16, Try.ntmps16
  go_wp2_with fail
  refine (good_any t _ hs).mono ?_
  rintro e w1 ⟨rfl, hb1⟩
  obtain ⟨k1, r1, l1⟩ := start_world hb1 (by simp)
  clear hb1
  have z1 := r1.lt
  obtain ⟨c0, c1, c2, c3, c4, c5, c6, c7, c8, c9, cfz⟩ := k1.all
  obtain ⟨d0, d1, d2, d3, d4, d5, d6, d7, d8, d9, dfz⟩ := r1.all
  go_wp2_with fail
  refine (ours_3 w.heap.size _).mono ?_
  rintro e w2 ⟨rfl, n, rfl⟩
  go_wp2_with fail
  refine (propose_set w.heap.size 4 251 3 t.u1 hn _ (by go_simp)).mono ?_
  rintro e w2 ⟨rfl, rfl⟩
  go_wp2
  exact bodyPost_ret (res3 Try.results16 rfl rfl rfl (cod_ten (cod_mk (cod_drewN r1 n) rfl))) rfl ⟨rfl, below_ten (below_drewN l1 n) (by omega)⟩

set_option maxRecDepth 100000 in
set_option maxHeartbeats 400000 in
theorem offer_new3 (t : Tel) (w : World) (hs : t.sub.size ≤ maxLen) (hg : good t = true) (hn : t.u1 = 0) :
    Calls Try.prog 16 #[t.val, .int .i64 3] w fun e w' => e = .returned (.tuple #[({ t with u1 := 2 } : Tel).val, .string (sayB 251 3), .int .i64 0]) ∧ Below w.heap.size w w' := by
  have HN := hide hn
  clear hn
  unfold Tel.val Tel.cells
  go_enter Try.func16, Try.ntmps16
  go_wp2_with fail
  refine (good_any t _ hs).mono ?_
  rintro e w1 ⟨rfl, hb1⟩
  obtain ⟨k1, r1, l1⟩ := start_world hb1 (by simp)
  clear hb1
  have z1 := r1.lt
  obtain ⟨c0, c1, c2, c3, c4, c5, c6, c7, c8, c9, cfz⟩ := k1.all
  obtain ⟨d0, d1, d2, d3, d4, d5, d6, d7, d8, d9, dfz⟩ := r1.all
  rw [HN.out] at c4
  go_wp2_with fail
  refine (ours_3 w.heap.size _).mono ?_
  rintro e w2 ⟨rfl, n, rfl⟩
  go_wp2_with fail
  refine (propose_no w.heap.size 4 251 3 (by omega) (by omega) (by omega) (by omega) _ (by go_simp) (by go_simp)).mono ?_
  rintro e w3 ⟨rfl, hb3⟩
  have k3 : Cod w3 w.heap.size { t with u1 := 2 } := cod_mk (cod_below (cod_set (cod_drewN k1 n) _ _) hb3 (by simp; omega)) rfl
  have r3 : Cod w3 (w.heap.size + 1) zt := cod_mk (cod_below (cod_ne (cod_drewN r1 n) (by omega) _ _) hb3 (by simp; omega)) rfl
  have l3 : Below w.heap.size w w3 := ((below_drewN l1 n).setCell (by simp) _).trans (hb3.mono (by simp; omega))
  clear hb3 k1 r1 l1 c0 c1 c2 c3 c4 c5 c6 c7 c8 c9 cfz d0 d1 d2 d3 d4 d5 d6 d7 d8 d9 dfz
  have z3 := r3.lt
  obtain ⟨c0, c1, c2, c3, c4, c5, c6, c7, c8, c9, cfz⟩ := k3.all
  obtain ⟨d0, d1, d2, d3, d4, d5, d6, d7, d8, d9, dfz⟩ := r3.all
  go_wp2
  exact bodyPost_ret (res3 Try.results16 rfl rfl rfl (cod_ten (t := { t with u1 := 2 }) r3)) rfl ⟨rfl, below_ten (t := { t with u1 := 2 }) l3 (by omega)⟩

set_option maxRecDepth 100000 in
set_option maxHeartbeats 400000 in
theorem ask_bad (t : Tel) (o : Int) (w : World) (hs : t.sub.size ≤ maxLen) (hg : good t = false) :
    Calls Try.prog 18 #[t.val, .int .i64 o] w fun e w' => e = .returned (.tuple #[t.val, .string ⟨#[]⟩, .int .i64 2]) ∧ Below w.heap.size w w' := by
  unfold Tel.val Tel.cells
  go_enter Try.func18, Try.ntmps18
  go_wp2_with fail
  refine (good_any t _ hs).mono ?_
  rintro e w1 ⟨rfl, hb1⟩
  obtain ⟨k1, r1, l1⟩ := start_world hb1 (by simp)
  clear hb1
  have z1 := r1.lt
  obtain ⟨c0, c1, c2, c3, c4, c5, c6, c7, c8, c9, cfz⟩ := k1.all
  obtain ⟨d0, d1, d2, d3, d4, d5, d6, d7, d8, d9, dfz⟩ := r1.all
  go_wp2
  exact bodyPost_ret (res3 Try.results18 rfl rfl rfl (cod_ten r1)) rfl ⟨rfl, below_ten l1 (by omega)⟩

set_option maxRecDepth 100000 in
set_option maxHeartbeats 400000 in
theorem ask_none (t : Tel) (o : Int) (w : World) (hs : t.sub.size ≤ maxLen) (hg : good t = true) (e1 : (o == 3) = false) (e2 : (o == 31) = false) :
    Calls Try.prog 18 #[t.val, .int .i64 o] w fun e w' => e = .returned (.tuple #[t.val, .string ⟨#[]⟩, .int .i64 3]) ∧ Below w.heap.size w w' := by
  unfold Tel.val Tel.cells
  go_enter Try.func18, Try.ntmps18
  go_wp2_with fail
  refine (good_any t _ hs).mono ?_
  rintro e w1 ⟨rfl, hb1⟩
  obtain ⟨k1, r1, l1⟩ := start_world hb1 (by simp)
  clear hb1
  have z1 := r1.lt
  obtain ⟨c0, c1, c2, c3, c4, c5, c6, c7, c8, c9, cfz⟩ := k1.all
  obtain ⟨d0, d1, d2, d3, d4, d5, d6, d7, d8, d9, dfz⟩ := r1.all
  go_wp2_with fail
  refine (theirs_no w.heap.size o e1 e2 _).mono ?_
  rintro e w2 ⟨rfl, n, rfl⟩
  go_wp2_with fail
  refine (propose_nil _ _ _).mono ?_
  rintro e w2 ⟨rfl, rfl⟩
  go_wp2
  exact bodyPost_ret (res3 Try.results18 rfl rfl rfl (cod_ten (cod_mk (cod_drewN r1 n) rfl))) rfl ⟨rfl, below_ten (below_drewN l1 n) (by omega)⟩

set_option maxRecDepth 100000 in
set_option maxHeartbeats 400000 in
theorem ask_set3 (t : Tel) (w : World) (hs : t.sub.size ≤ maxLen) (hg : good t = true) (hn : (t.t1 != 0) = true) :
    Calls Try.prog 18 #[t.val, .int .i64 3] w fun e w' => e = .returned (.tuple #[t.val, .string ⟨#[]⟩, .int .i64 0]) ∧ Below w.heap.size w w' := by
  unfold Tel.val Tel.cells
  go_enter Try.func18, Try.ntmps18
  go_wp2_with fail
  refine (good_any t _ hs).mono ?_
  rintro e w1 ⟨rfl, hb1⟩
  obtain ⟨k1, r1, l1⟩ := start_world hb1 (by simp)
  clear hb1
  have z1 := r1.lt
  obtain ⟨c0, c1, c2, c3, c4, c5, c6, c7, c8, c9, cfz⟩ := k1.all
  obtain ⟨d0, d1, d2, d3, d4, d5, d6, d7, d8, d9, dfz⟩ := r1.all
  go_wp2_with fail
  refine (theirs_3 w.heap.size _).mono ?_
  rintro e w2 ⟨rfl, n, rfl⟩
  go_wp2_with fail
  refine (propose_set w.heap.size 7 253 3 t.t1 hn _ (by go_simp)).mono ?_
  rintro e w2 ⟨rfl, rfl⟩
  go_wp2
  exact bodyPost_ret (res3 Try.results18 rfl rfl rfl (cod_ten (cod_mk (cod_drewN r1 n) rfl))) rfl ⟨rfl, below_ten (below_drewN l1 n) (by omega)⟩

set_option maxRecDepth 100000 in
set_option maxHeartbeats 400000 in
theorem ask_new3 (t : Tel) (w : World) (hs : t.sub.size ≤ maxLen) (hg : good t = true) (hn : t.t1 = 0) :
    Calls Try.prog 18 #[t.val, .int .i64 3] w fun e w' => e = .returned (.tuple #[({ t with t1 := 2 } : Tel).val, .string (sayB 253 3), .int .i64 0]) ∧ Below w.heap.size w w' := by
  have HN := hide hn
  clear hn
  unfold Tel.val Tel.cells
  go_enter Try.func18, Try.ntmps18
  go_wp2_with fail
  refine (good_any t _ hs).mono ?_
  rintro e w1 ⟨rfl, hb1⟩
  obtain ⟨k1, r1, l1⟩ := start_world hb1 (by simp)
  clear hb1
  have z1 := r1.lt
  obtain ⟨c0, c1, c2, c3, c4, c5, c6, c7, c8, c9, cfz⟩ := k1.all
  obtain ⟨d0, d1, d2, d3, d4, d5, d6, d7, d8, d9, dfz⟩ := r1.all
  rw [HN.out] at c7
  go_wp2_with fail
  refine (theirs_3 w.heap.size _).mono ?_
  rintro e w2 ⟨rfl, n, rfl⟩
  go_wp2_with fail
  refine (propose_no w.heap.size 7 253 3 (by omega) (by omega) (by omega) (by omega) _ (by go_simp) (by go_simp)).mono ?_
  rintro e w3 ⟨rfl, hb3⟩
  have k3 : Cod w3 w.heap.size { t with t1 := 2 } := cod_mk (cod_below (cod_set (cod_drewN k1 n) _ _) hb3 (by simp; omega)) rfl
  have r3 : Cod w3 (w.heap.size + 1) zt := cod_mk (cod_below (cod_ne (cod_drewN r1 n) (by omega) _ _) hb3 (by simp; omega)) rfl
  have l3 : Below w.heap.size w w3 := ((below_drewN l1 n).setCell (by simp) _).trans (hb3.mono (by simp; omega))
  clear hb3 k1 r1 l1 c0 c1 c2 c3 c4 c5 c6 c7 c8 c9 cfz d0 d1 d2 d3 d4 d5 d6 d7 d8 d9 dfz
  have z3 := r3.lt
  obtain ⟨c0, c1, c2, c3, c4, c5, c6, c7, c8, c9, cfz⟩ := k3.all
  obtain ⟨d0, d1, d2, d3, d4, d5, d6, d7, d8, d9, dfz⟩ := r3.all
  go_wp2
  exact bodyPost_ret (res3 Try.results18 rfl rfl rfl (cod_ten (t := { t with t1 := 2 }) r3)) rfl ⟨rfl, below_ten (t := { t with t1 := 2 }) l3 (by omega)⟩

set_option maxRecDepth 100000 in
set_option maxHeartbeats 400000 in
theorem ask_set31 (t : Tel) (w : World) (hs : t.sub.size ≤ maxLen) (hg : good t = true) (hn : (t.t2 != 0) = true) :
    Calls Try.prog 18 #[t.val, .int .i64 31] w fun e w' => e = .returned (.tuple #[t.val, .string ⟨#[]⟩, .int .i64 0]) ∧ Below w.heap.size w w' := by
  unfold Tel.val Tel.cells
  go_enter Try.func18, Try.ntmps18
  go_wp2_with fail
  refine (good_any t _ hs).mono ?_
  rintro e w1 ⟨rfl, hb1⟩
  obtain ⟨k1, r1, l1⟩ := start_world hb1 (by simp)
  clear hb1
  have z1 := r1.lt
  obtain ⟨c0, c1, c2, c3, c4, c5, c6, c7, c8, c9, cfz⟩ := k1.all
  obtain ⟨d0, d1, d2, d3, d4, d5, d6, d7, d8, d9, dfz⟩ := r1.all
  go_wp2_with fail
  refine (theirs_31 w.heap.size _).mono ?_
  rintro e w2 ⟨rfl, n, rfl⟩
  go_wp2_with fail
  refine (propose_set w.heap.size 8 253 31 t.t2 hn _ (by go_simp)).mono ?_
  rintro e w2 ⟨rfl, rfl⟩
  go_wp2
  exact bodyPost_ret (res3 Try.results18 rfl rfl rfl (cod_ten (cod_mk (cod_drewN r1 n) rfl))) rfl ⟨rfl, below_ten (below_drewN l1 n) (by omega)⟩

set_option maxRecDepth 100000 in
set_option maxHeartbeats 400000 in
theorem ask_new31 (t : Tel) (w : World) (hs : t.sub.size ≤ maxLen) (hg : good t = true) (hn : t.t2 = 0) :
    Calls Try.prog 18 #[t.val, .int .i64 31] w fun e w' => e = .returned (.tuple #[({ t with t2 := 2 } : Tel).val, .string (sayB 253 31), .int .i64 0]) ∧ Below w.heap.size w w' := by
  have HN := hide hn
  clear hn
  unfold Tel.val Tel.cells
  go_enter Try.func18, Try.ntmps18
  go_wp2_with fail
  refine (good_any t _ hs).mono ?_
  rintro e w1 ⟨rfl, hb1⟩
  obtain ⟨k1, r1, l1⟩ := start_world hb1 (by simp)
  clear hb1
  have z1 := r1.lt
  obtain ⟨c0, c1, c2, c3, c4, c5, c6, c7, c8, c9, cfz⟩ := k1.all
  obtain ⟨d0, d1, d2, d3, d4, d5, d6, d7, d8, d9, dfz⟩ := r1.all
  rw [HN.out] at c8
  go_wp2_with fail
  refine (theirs_31 w.heap.size _).mono ?_
  rintro e w2 ⟨rfl, n, rfl⟩
  go_wp2_with fail
  refine (propose_no w.heap.size 8 253 31 (by omega) (by omega) (by omega) (by omega) _ (by go_simp) (by go_simp)).mono ?_
  rintro e w3 ⟨rfl, hb3⟩
  have k3 : Cod w3 w.heap.size { t with t2 := 2 } := cod_mk (cod_below (cod_set (cod_drewN k1 n) _ _) hb3 (by simp; omega)) rfl
  have r3 : Cod w3 (w.heap.size + 1) zt := cod_mk (cod_below (cod_ne (cod_drewN r1 n) (by omega) _ _) hb3 (by simp; omega)) rfl
  have l3 : Below w.heap.size w w3 := ((below_drewN l1 n).setCell (by simp) _).trans (hb3.mono (by simp; omega))
  clear hb3 k1 r1 l1 c0 c1 c2 c3 c4 c5 c6 c7 c8 c9 cfz d0 d1 d2 d3 d4 d5 d6 d7 d8 d9 dfz
  have z3 := r3.lt
  obtain ⟨c0, c1, c2, c3, c4, c5, c6, c7, c8, c9, cfz⟩ := k3.all
  obtain ⟨d0, d1, d2, d3, d4, d5, d6, d7, d8, d9, dfz⟩ := r3.all
  go_wp2
  exact bodyPost_ret (res3 Try.results18 rfl rfl rfl (cod_ten (t := { t with t2 := 2 }) r3)) rfl ⟨rfl, below_ten (t := { t with t2 := 2 }) l3 (by omega)⟩

end Go.Proofs.Ytbjcmnemcgadjaa
