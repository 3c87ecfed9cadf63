/-
  The contract of settle of package telnet.
-/
import Derived.Test.YtbjcmnemcgadjaaFin
namespace Go.Proofs.Ytbjcmnemcgadjaa
open Go.RowKit
set_option linter.unusedVariables false

set_option maxHeartbeats 400000 in
theorem settle_253_1_a (t : Tel) (b : Nat) (w : World) (h : Cod w b t) (hv : t.verb = 253) (hn : t.u0 = 0) :
    Calls Try.prog 22 #[.pointer (some ⟨b, 0, none⟩), .int .i64 1] w fun e w' => e = .returned (.string ⟨(sayL 251 1 : List UInt8).toArray⟩) ∧ Cod w' b { t with pos := 0, verb := 0, u0 := 1 } ∧ w.grownBy w' (some b) := by
  obtain ⟨c0, c1, c2, c3, c4, c5, c6, c7, c8, c9, hfz⟩ := h.all
  have hbl := h.lt
  rw [hv] at c1
  rw [hn] at c3
  clear hv hn
  go_enter Try.func22, Try.ntmps22
  go_wp2_with fail
  refine (ours_1 b _).mono ?_
  rintro e w1 ⟨rfl, n, rfl⟩
  go_wp2_with fail
  refine (begin_no b 3 251 252 1 (by omega) (by omega) (by omega) (by omega) _ (by go_simp) (by go_simp)).mono ?_
  rintro e w2 ⟨rfl, hb⟩
  go_wp2
  go_ret
  exact ⟨rfl, cod_mk (cod_below (cod_set (cod_drewN (cod_set (cod_set h _ _) _ _) _) _ _) hb (by simpa using hbl)) rfl, grown_below (grown_set (grown_drewN (grown_set (grown_set (grown_refl _ _) _ _) _ _) _) _ _) hb (by simp)⟩

set_option maxHeartbeats 400000 in
theorem settle_253_1_n (t : Tel) (b : Nat) (w : World) (h : Cod w b t) (hv : t.verb = 253) (hn : (t.u0 == 0) = false) :
    Calls Try.prog 22 #[.pointer (some ⟨b, 0, none⟩), .int .i64 1] w fun e w' => e = .returned (.string ⟨([] : List UInt8).toArray⟩) ∧ Cod w' b { t with pos := 0, verb := 0, u0 := 1 } ∧ w.grownBy w' (some b) := by
  obtain ⟨c0, c1, c2, c3, c4, c5, c6, c7, c8, c9, hfz⟩ := h.all
  have hbl := h.lt
  rw [hv] at c1
  clear hv
  go_enter Try.func22, Try.ntmps22
  go_wp2_with fail
  refine (ours_1 b _).mono ?_
  rintro e w1 ⟨rfl, n, rfl⟩
  go_wp2_with fail
  refine (begin_yes b 3 251 252 1 t.u0 hn _ (by go_simp) (by go_simp)).mono ?_
  rintro e w2 ⟨rfl, rfl⟩
  go_wp2
  go_ret
  exact ⟨rfl, cod_mk (cod_set (cod_drewN (cod_set (cod_set h _ _) _ _) _) _ _) rfl, grown_set (grown_drewN (grown_set (grown_set (grown_refl _ _) _ _) _ _) _) _ _⟩

set_option maxHeartbeats 400000 in
theorem settle_253_3_a (t : Tel) (b : Nat) (w : World) (h : Cod w b t) (hv : t.verb = 253) (hn : t.u1 = 0) :
    Calls Try.prog 22 #[.pointer (some ⟨b, 0, none⟩), .int .i64 3] w fun e w' => e = .returned (.string ⟨(sayL 251 3 : List UInt8).toArray⟩) ∧ Cod w' b { t with pos := 0, verb := 0, u1 := 1 } ∧ w.grownBy w' (some b) := by
  obtain ⟨c0, c1, c2, c3, c4, c5, c6, c7, c8, c9, hfz⟩ := h.all
  have hbl := h.lt
  rw [hv] at c1
  rw [hn] at c4
  clear hv hn
  go_enter Try.func22, Try.ntmps22
  go_wp2_with fail
  refine (ours_3 b _).mono ?_
  rintro e w1 ⟨rfl, n, rfl⟩
  go_wp2_with fail
  refine (begin_no b 4 251 252 3 (by omega) (by omega) (by omega) (by omega) _ (by go_simp) (by go_simp)).mono ?_
  rintro e w2 ⟨rfl, hb⟩
  go_wp2
  go_ret
  exact ⟨rfl, cod_mk (cod_below (cod_set (cod_drewN (cod_set (cod_set h _ _) _ _) _) _ _) hb (by simpa using hbl)) rfl, grown_below (grown_set (grown_drewN (grown_set (grown_set (grown_refl _ _) _ _) _ _) _) _ _) hb (by simp)⟩

set_option maxHeartbeats 400000 in
theorem settle_253_3_n (t : Tel) (b : Nat) (w : World) (h : Cod w b t) (hv : t.verb = 253) (hn : (t.u1 == 0) = false) :
    Calls Try.prog 22 #[.pointer (some ⟨b, 0, none⟩), .int .i64 3] w fun e w' => e = .returned (.string ⟨([] : List UInt8).toArray⟩) ∧ Cod w' b { t with pos := 0, verb := 0, u1 := 1 } ∧ w.grownBy w' (some b) := by
  obtain ⟨c0, c1, c2, c3, c4, c5, c6, c7, c8, c9, hfz⟩ := h.all
  have hbl := h.lt
  rw [hv] at c1
  clear hv
  go_enter Try.func22, Try.ntmps22
  go_wp2_with fail
  refine (ours_3 b _).mono ?_
  rintro e w1 ⟨rfl, n, rfl⟩
  go_wp2_with fail
  refine (begin_yes b 4 251 252 3 t.u1 hn _ (by go_simp) (by go_simp)).mono ?_
  rintro e w2 ⟨rfl, rfl⟩
  go_wp2
  go_ret
  exact ⟨rfl, cod_mk (cod_set (cod_drewN (cod_set (cod_set h _ _) _ _) _) _ _) rfl, grown_set (grown_drewN (grown_set (grown_set (grown_refl _ _) _ _) _ _) _) _ _⟩

set_option maxHeartbeats 400000 in
theorem settle_253_no (t : Tel) (b : Nat) (o : Int) (w : World) (h : Cod w b t) (hv : t.verb = 253) (e1 : (o == 1) = false) (e2 : (o == 3) = false) (h0 : 0 ≤ o) (h255 : o ≤ 255) :
    Calls Try.prog 22 #[.pointer (some ⟨b, 0, none⟩), .int .i64 o] w fun e w' => e = .returned (.string ⟨(sayL 252 o : List UInt8).toArray⟩) ∧ Cod w' b { t with pos := 0, verb := 0 } ∧ w.grownBy w' (some b) := by
  obtain ⟨c0, c1, c2, c3, c4, c5, c6, c7, c8, c9, hfz⟩ := h.all
  have hbl := h.lt
  rw [hv] at c1
  clear hv
  go_enter Try.func22, Try.ntmps22
  go_wp2_with fail
  refine (ours_no b o e1 e2 _).mono ?_
  rintro e w1 ⟨rfl, n, rfl⟩
  go_wp2_with fail
  refine (begin_nil 251 252 o (by omega) (by omega) h0 h255 _).mono ?_
  rintro e w2 ⟨rfl, hb⟩
  go_wp2
  go_ret
  exact ⟨rfl, cod_mk (cod_below (cod_drewN (cod_set (cod_set h _ _) _ _) _) hb (by simpa using hbl)) rfl, grown_below (grown_drewN (grown_set (grown_set (grown_refl _ _) _ _) _ _) _) hb (by simp)⟩

set_option maxHeartbeats 400000 in
theorem settle_254_1_a (t : Tel) (b : Nat) (w : World) (h : Cod w b t) (hv : t.verb = 254) (hn : t.u0 = 1) :
    Calls Try.prog 22 #[.pointer (some ⟨b, 0, none⟩), .int .i64 1] w fun e w' => e = .returned (.string ⟨(sayL 252 1 : List UInt8).toArray⟩) ∧ Cod w' b { t with pos := 0, verb := 0, u0 := 0 } ∧ w.grownBy w' (some b) := by
  obtain ⟨c0, c1, c2, c3, c4, c5, c6, c7, c8, c9, hfz⟩ := h.all
  have hbl := h.lt
  rw [hv] at c1
  rw [hn] at c3
  clear hv hn
  go_enter Try.func22, Try.ntmps22
  go_wp2_with fail
  refine (ours_1 b _).mono ?_
  rintro e w1 ⟨rfl, n, rfl⟩
  go_wp2_with fail
  refine (end_yes b 3 252 1 (by omega) (by omega) (by omega) (by omega) _ (by go_simp) (by go_simp)).mono ?_
  rintro e w2 ⟨rfl, hb⟩
  go_wp2
  go_ret
  exact ⟨rfl, cod_mk (cod_below (cod_set (cod_drewN (cod_set (cod_set h _ _) _ _) _) _ _) hb (by simpa using hbl)) rfl, grown_below (grown_set (grown_drewN (grown_set (grown_set (grown_refl _ _) _ _) _ _) _) _ _) hb (by simp)⟩

set_option maxHeartbeats 400000 in
theorem settle_254_1_n (t : Tel) (b : Nat) (w : World) (h : Cod w b t) (hv : t.verb = 254) (hn : (t.u0 == 1) = false) :
    Calls Try.prog 22 #[.pointer (some ⟨b, 0, none⟩), .int .i64 1] w fun e w' => e = .returned (.string ⟨([] : List UInt8).toArray⟩) ∧ Cod w' b { t with pos := 0, verb := 0, u0 := 0 } ∧ w.grownBy w' (some b) := by
  obtain ⟨c0, c1, c2, c3, c4, c5, c6, c7, c8, c9, hfz⟩ := h.all
  have hbl := h.lt
  rw [hv] at c1
  clear hv
  go_enter Try.func22, Try.ntmps22
  go_wp2_with fail
  refine (ours_1 b _).mono ?_
  rintro e w1 ⟨rfl, n, rfl⟩
  go_wp2_with fail
  refine (end_no b 3 252 1 t.u0 hn _ (by go_simp) (by go_simp)).mono ?_
  rintro e w2 ⟨rfl, rfl⟩
  go_wp2
  go_ret
  exact ⟨rfl, cod_mk (cod_set (cod_drewN (cod_set (cod_set h _ _) _ _) _) _ _) rfl, grown_set (grown_drewN (grown_set (grown_set (grown_refl _ _) _ _) _ _) _) _ _⟩

set_option maxHeartbeats 400000 in
theorem settle_254_3_a (t : Tel) (b : Nat) (w : World) (h : Cod w b t) (hv : t.verb = 254) (hn : t.u1 = 1) :
    Calls Try.prog 22 #[.pointer (some ⟨b, 0, none⟩), .int .i64 3] w fun e w' => e = .returned (.string ⟨(sayL 252 3 : List UInt8).toArray⟩) ∧ Cod w' b { t with pos := 0, verb := 0, u1 := 0 } ∧ w.grownBy w' (some b) := by
  obtain ⟨c0, c1, c2, c3, c4, c5, c6, c7, c8, c9, hfz⟩ := h.all
  have hbl := h.lt
  rw [hv] at c1
  rw [hn] at c4
  clear hv hn
  go_enter Try.func22, Try.ntmps22
  go_wp2_with fail
  refine (ours_3 b _).mono ?_
  rintro e w1 ⟨rfl, n, rfl⟩
  go_wp2_with fail
  refine (end_yes b 4 252 3 (by omega) (by omega) (by omega) (by omega) _ (by go_simp) (by go_simp)).mono ?_
  rintro e w2 ⟨rfl, hb⟩
  go_wp2
  go_ret
  exact ⟨rfl, cod_mk (cod_below (cod_set (cod_drewN (cod_set (cod_set h _ _) _ _) _) _ _) hb (by simpa using hbl)) rfl, grown_below (grown_set (grown_drewN (grown_set (grown_set (grown_refl _ _) _ _) _ _) _) _ _) hb (by simp)⟩

set_option maxHeartbeats 400000 in
theorem settle_254_3_n (t : Tel) (b : Nat) (w : World) (h : Cod w b t) (hv : t.verb = 254) (hn : (t.u1 == 1) = false) :
    Calls Try.prog 22 #[.pointer (some ⟨b, 0, none⟩), .int .i64 3] w fun e w' => e = .returned (.string ⟨([] : List UInt8).toArray⟩) ∧ Cod w' b { t with pos := 0, verb := 0, u1 := 0 } ∧ w.grownBy w' (some b) := by
  obtain ⟨c0, c1, c2, c3, c4, c5, c6, c7, c8, c9, hfz⟩ := h.all
  have hbl := h.lt
  rw [hv] at c1
  clear hv
  go_enter Try.func22, Try.ntmps22
  go_wp2_with fail
  refine (ours_3 b _).mono ?_
  rintro e w1 ⟨rfl, n, rfl⟩
  go_wp2_with fail
  refine (end_no b 4 252 3 t.u1 hn _ (by go_simp) (by go_simp)).mono ?_
  rintro e w2 ⟨rfl, rfl⟩
  go_wp2
  go_ret
  exact ⟨rfl, cod_mk (cod_set (cod_drewN (cod_set (cod_set h _ _) _ _) _) _ _) rfl, grown_set (grown_drewN (grown_set (grown_set (grown_refl _ _) _ _) _ _) _) _ _⟩

set_option maxHeartbeats 400000 in
theorem settle_254_no (t : Tel) (b : Nat) (o : Int) (w : World) (h : Cod w b t) (hv : t.verb = 254) (e1 : (o == 1) = false) (e2 : (o == 3) = false) (h0 : 0 ≤ o) (h255 : o ≤ 255) :
    Calls Try.prog 22 #[.pointer (some ⟨b, 0, none⟩), .int .i64 o] w fun e w' => e = .returned (.string ⟨([] : List UInt8).toArray⟩) ∧ Cod w' b { t with pos := 0, verb := 0 } ∧ w.grownBy w' (some b) := by
  obtain ⟨c0, c1, c2, c3, c4, c5, c6, c7, c8, c9, hfz⟩ := h.all
  have hbl := h.lt
  rw [hv] at c1
  clear hv
  go_enter Try.func22, Try.ntmps22
  go_wp2_with fail
  refine (ours_no b o e1 e2 _).mono ?_
  rintro e w1 ⟨rfl, n, rfl⟩
  go_wp2_with fail
  refine (end_nil 252 o _).mono ?_
  rintro e w2 ⟨rfl, rfl⟩
  go_wp2
  go_ret
  exact ⟨rfl, cod_mk (cod_drewN (cod_set (cod_set h _ _) _ _) _) rfl, grown_drewN (grown_set (grown_set (grown_refl _ _) _ _) _ _) _⟩

set_option maxHeartbeats 400000 in
theorem settle_251_3_a (t : Tel) (b : Nat) (w : World) (h : Cod w b t) (hv : t.verb = 251) (hn : t.t1 = 0) :
    Calls Try.prog 22 #[.pointer (some ⟨b, 0, none⟩), .int .i64 3] w fun e w' => e = .returned (.string ⟨(sayL 253 3 : List UInt8).toArray⟩) ∧ Cod w' b { t with pos := 0, verb := 0, t1 := 1 } ∧ w.grownBy w' (some b) := by
  obtain ⟨c0, c1, c2, c3, c4, c5, c6, c7, c8, c9, hfz⟩ := h.all
  have hbl := h.lt
  rw [hv] at c1
  rw [hn] at c7
  clear hv hn
  go_enter Try.func22, Try.ntmps22
  go_wp2_with fail
  refine (theirs_3 b _).mono ?_
  rintro e w1 ⟨rfl, n, rfl⟩
  go_wp2_with fail
  refine (begin_no b 7 253 254 3 (by omega) (by omega) (by omega) (by omega) _ (by go_simp) (by go_simp)).mono ?_
  rintro e w2 ⟨rfl, hb⟩
  go_wp2
  go_ret
  exact ⟨rfl, cod_mk (cod_below (cod_set (cod_drewN (cod_set (cod_set h _ _) _ _) _) _ _) hb (by simpa using hbl)) rfl, grown_below (grown_set (grown_drewN (grown_set (grown_set (grown_refl _ _) _ _) _ _) _) _ _) hb (by simp)⟩

set_option maxHeartbeats 400000 in
theorem settle_251_3_n (t : Tel) (b : Nat) (w : World) (h : Cod w b t) (hv : t.verb = 251) (hn : (t.t1 == 0) = false) :
    Calls Try.prog 22 #[.pointer (some ⟨b, 0, none⟩), .int .i64 3] w fun e w' => e = .returned (.string ⟨([] : List UInt8).toArray⟩) ∧ Cod w' b { t with pos := 0, verb := 0, t1 := 1 } ∧ w.grownBy w' (some b) := by
  obtain ⟨c0, c1, c2, c3, c4, c5, c6, c7, c8, c9, hfz⟩ := h.all
  have hbl := h.lt
  rw [hv] at c1
  clear hv
  go_enter Try.func22, Try.ntmps22
  go_wp2_with fail
  refine (theirs_3 b _).mono ?_
  rintro e w1 ⟨rfl, n, rfl⟩
  go_wp2_with fail
  refine (begin_yes b 7 253 254 3 t.t1 hn _ (by go_simp) (by go_simp)).mono ?_
  rintro e w2 ⟨rfl, rfl⟩
  go_wp2
  go_ret
  exact ⟨rfl, cod_mk (cod_set (cod_drewN (cod_set (cod_set h _ _) _ _) _) _ _) rfl, grown_set (grown_drewN (grown_set (grown_set (grown_refl _ _) _ _) _ _) _) _ _⟩

set_option maxHeartbeats 400000 in
theorem settle_251_31_a (t : Tel) (b : Nat) (w : World) (h : Cod w b t) (hv : t.verb = 251) (hn : t.t2 = 0) :
    Calls Try.prog 22 #[.pointer (some ⟨b, 0, none⟩), .int .i64 31] w fun e w' => e = .returned (.string ⟨(sayL 253 31 : List UInt8).toArray⟩) ∧ Cod w' b { t with pos := 0, verb := 0, t2 := 1 } ∧ w.grownBy w' (some b) := by
  obtain ⟨c0, c1, c2, c3, c4, c5, c6, c7, c8, c9, hfz⟩ := h.all
  have hbl := h.lt
  rw [hv] at c1
  rw [hn] at c8
  clear hv hn
  go_enter Try.func22, Try.ntmps22
  go_wp2_with fail
  refine (theirs_31 b _).mono ?_
  rintro e w1 ⟨rfl, n, rfl⟩
  go_wp2_with fail
  refine (begin_no b 8 253 254 31 (by omega) (by omega) (by omega) (by omega) _ (by go_simp) (by go_simp)).mono ?_
  rintro e w2 ⟨rfl, hb⟩
  go_wp2
  go_ret
  exact ⟨rfl, cod_mk (cod_below (cod_set (cod_drewN (cod_set (cod_set h _ _) _ _) _) _ _) hb (by simpa using hbl)) rfl, grown_below (grown_set (grown_drewN (grown_set (grown_set (grown_refl _ _) _ _) _ _) _) _ _) hb (by simp)⟩

set_option maxHeartbeats 400000 in
theorem settle_251_31_n (t : Tel) (b : Nat) (w : World) (h : Cod w b t) (hv : t.verb = 251) (hn : (t.t2 == 0) = false) :
    Calls Try.prog 22 #[.pointer (some ⟨b, 0, none⟩), .int .i64 31] w fun e w' => e = .returned (.string ⟨([] : List UInt8).toArray⟩) ∧ Cod w' b { t with pos := 0, verb := 0, t2 := 1 } ∧ w.grownBy w' (some b) := by
  obtain ⟨c0, c1, c2, c3, c4, c5, c6, c7, c8, c9, hfz⟩ := h.all
  have hbl := h.lt
  rw [hv] at c1
  clear hv
  go_enter Try.func22, Try.ntmps22
  go_wp2_with fail
  refine (theirs_31 b _).mono ?_
  rintro e w1 ⟨rfl, n, rfl⟩
  go_wp2_with fail
  refine (begin_yes b 8 253 254 31 t.t2 hn _ (by go_simp) (by go_simp)).mono ?_
  rintro e w2 ⟨rfl, rfl⟩
  go_wp2
  go_ret
  exact ⟨rfl, cod_mk (cod_set (cod_drewN (cod_set (cod_set h _ _) _ _) _) _ _) rfl, grown_set (grown_drewN (grown_set (grown_set (grown_refl _ _) _ _) _ _) _) _ _⟩

set_option maxHeartbeats 400000 in
theorem settle_251_no (t : Tel) (b : Nat) (o : Int) (w : World) (h : Cod w b t) (hv : t.verb = 251) (e1 : (o == 3) = false) (e2 : (o == 31) = false) (h0 : 0 ≤ o) (h255 : o ≤ 255) :
    Calls Try.prog 22 #[.pointer (some ⟨b, 0, none⟩), .int .i64 o] w fun e w' => e = .returned (.string ⟨(sayL 254 o : List UInt8).toArray⟩) ∧ Cod w' b { t with pos := 0, verb := 0 } ∧ w.grownBy w' (some b) := by
  obtain ⟨c0, c1, c2, c3, c4, c5, c6, c7, c8, c9, hfz⟩ := h.all
  have hbl := h.lt
  rw [hv] at c1
  clear hv
  go_enter Try.func22, Try.ntmps22
  go_wp2_with fail
  refine (theirs_no b o e1 e2 _).mono ?_
  rintro e w1 ⟨rfl, n, rfl⟩
  go_wp2_with fail
  refine (begin_nil 253 254 o (by omega) (by omega) h0 h255 _).mono ?_
  rintro e w2 ⟨rfl, hb⟩
  go_wp2
  go_ret
  exact ⟨rfl, cod_mk (cod_below (cod_drewN (cod_set (cod_set h _ _) _ _) _) hb (by simpa using hbl)) rfl, grown_below (grown_drewN (grown_set (grown_set (grown_refl _ _) _ _) _ _) _) hb (by simp)⟩

set_option maxHeartbeats 400000 in
theorem settle_252_3_a (t : Tel) (b : Nat) (w : World) (h : Cod w b t) (hv : t.verb = 252) (hn : t.t1 = 1) :
    Calls Try.prog 22 #[.pointer (some ⟨b, 0, none⟩), .int .i64 3] w fun e w' => e = .returned (.string ⟨(sayL 254 3 : List UInt8).toArray⟩) ∧ Cod w' b { t with pos := 0, verb := 0, t1 := 0 } ∧ w.grownBy w' (some b) := by
  obtain ⟨c0, c1, c2, c3, c4, c5, c6, c7, c8, c9, hfz⟩ := h.all
  have hbl := h.lt
  rw [hv] at c1
  rw [hn] at c7
  clear hv hn
  go_enter Try.func22, Try.ntmps22
  go_wp2_with fail
  refine (theirs_3 b _).mono ?_
  rintro e w1 ⟨rfl, n, rfl⟩
  go_wp2_with fail
  refine (end_yes b 7 254 3 (by omega) (by omega) (by omega) (by omega) _ (by go_simp) (by go_simp)).mono ?_
  rintro e w2 ⟨rfl, hb⟩
  go_wp2
  go_ret
  exact ⟨rfl, cod_mk (cod_below (cod_set (cod_drewN (cod_set (cod_set h _ _) _ _) _) _ _) hb (by simpa using hbl)) rfl, grown_below (grown_set (grown_drewN (grown_set (grown_set (grown_refl _ _) _ _) _ _) _) _ _) hb (by simp)⟩

set_option maxHeartbeats 400000 in
theorem settle_252_3_n (t : Tel) (b : Nat) (w : World) (h : Cod w b t) (hv : t.verb = 252) (hn : (t.t1 == 1) = false) :
    Calls Try.prog 22 #[.pointer (some ⟨b, 0, none⟩), .int .i64 3] w fun e w' => e = .returned (.string ⟨([] : List UInt8).toArray⟩) ∧ Cod w' b { t with pos := 0, verb := 0, t1 := 0 } ∧ w.grownBy w' (some b) := by
  obtain ⟨c0, c1, c2, c3, c4, c5, c6, c7, c8, c9, hfz⟩ := h.all
  have hbl := h.lt
  rw [hv] at c1
  clear hv
  go_enter Try.func22, Try.ntmps22
  go_wp2_with fail
  refine (theirs_3 b _).mono ?_
  rintro e w1 ⟨rfl, n, rfl⟩
  go_wp2_with fail
  refine (end_no b 7 254 3 t.t1 hn _ (by go_simp) (by go_simp)).mono ?_
  rintro e w2 ⟨rfl, rfl⟩
  go_wp2
  go_ret
  exact ⟨rfl, cod_mk (cod_set (cod_drewN (cod_set (cod_set h _ _) _ _) _) _ _) rfl, grown_set (grown_drewN (grown_set (grown_set (grown_refl _ _) _ _) _ _) _) _ _⟩

set_option maxHeartbeats 400000 in
theorem settle_252_31_a (t : Tel) (b : Nat) (w : World) (h : Cod w b t) (hv : t.verb = 252) (hn : t.t2 = 1) :
    Calls Try.prog 22 #[.pointer (some ⟨b, 0, none⟩), .int .i64 31] w fun e w' => e = .returned (.string ⟨(sayL 254 31 : List UInt8).toArray⟩) ∧ Cod w' b { t with pos := 0, verb := 0, t2 := 0 } ∧ w.grownBy w' (some b) := by
  obtain ⟨c0, c1, c2, c3, c4, c5, c6, c7, c8, c9, hfz⟩ := h.all
  have hbl := h.lt
  rw [hv] at c1
  rw [hn] at c8
  clear hv hn
  go_enter Try.func22, Try.ntmps22
  go_wp2_with fail
  refine (theirs_31 b _).mono ?_
  rintro e w1 ⟨rfl, n, rfl⟩
  go_wp2_with fail
  refine (end_yes b 8 254 31 (by omega) (by omega) (by omega) (by omega) _ (by go_simp) (by go_simp)).mono ?_
  rintro e w2 ⟨rfl, hb⟩
  go_wp2
  go_ret
  exact ⟨rfl, cod_mk (cod_below (cod_set (cod_drewN (cod_set (cod_set h _ _) _ _) _) _ _) hb (by simpa using hbl)) rfl, grown_below (grown_set (grown_drewN (grown_set (grown_set (grown_refl _ _) _ _) _ _) _) _ _) hb (by simp)⟩

set_option maxHeartbeats 400000 in
theorem settle_252_31_n (t : Tel) (b : Nat) (w : World) (h : Cod w b t) (hv : t.verb = 252) (hn : (t.t2 == 1) = false) :
    Calls Try.prog 22 #[.pointer (some ⟨b, 0, none⟩), .int .i64 31] w fun e w' => e = .returned (.string ⟨([] : List UInt8).toArray⟩) ∧ Cod w' b { t with pos := 0, verb := 0, t2 := 0 } ∧ w.grownBy w' (some b) := by
  obtain ⟨c0, c1, c2, c3, c4, c5, c6, c7, c8, c9, hfz⟩ := h.all
  have hbl := h.lt
  rw [hv] at c1
  clear hv
  go_enter Try.func22, Try.ntmps22
  go_wp2_with fail
  refine (theirs_31 b _).mono ?_
  rintro e w1 ⟨rfl, n, rfl⟩
  go_wp2_with fail
  refine (end_no b 8 254 31 t.t2 hn _ (by go_simp) (by go_simp)).mono ?_
  rintro e w2 ⟨rfl, rfl⟩
  go_wp2
  go_ret
  exact ⟨rfl, cod_mk (cod_set (cod_drewN (cod_set (cod_set h _ _) _ _) _) _ _) rfl, grown_set (grown_drewN (grown_set (grown_set (grown_refl _ _) _ _) _ _) _) _ _⟩

set_option maxHeartbeats 400000 in
theorem settle_252_no (t : Tel) (b : Nat) (o : Int) (w : World) (h : Cod w b t) (hv : t.verb = 252) (e1 : (o == 3) = false) (e2 : (o == 31) = false) (h0 : 0 ≤ o) (h255 : o ≤ 255) :
    Calls Try.prog 22 #[.pointer (some ⟨b, 0, none⟩), .int .i64 o] w fun e w' => e = .returned (.string ⟨([] : List UInt8).toArray⟩) ∧ Cod w' b { t with pos := 0, verb := 0 } ∧ w.grownBy w' (some b) := by
  obtain ⟨c0, c1, c2, c3, c4, c5, c6, c7, c8, c9, hfz⟩ := h.all
  have hbl := h.lt
  rw [hv] at c1
  clear hv
  go_enter Try.func22, Try.ntmps22
  go_wp2_with fail
  refine (theirs_no b o e1 e2 _).mono ?_
  rintro e w1 ⟨rfl, n, rfl⟩
  go_wp2_with fail
  refine (end_nil 254 o _).mono ?_
  rintro e w2 ⟨rfl, rfl⟩
  go_wp2
  go_ret
  exact ⟨rfl, cod_mk (cod_drewN (cod_set (cod_set h _ _) _ _) _) rfl, grown_drewN (grown_set (grown_set (grown_refl _ _) _ _) _ _) _⟩

theorem settle_any (t : Tel) (b : Nat) (o : Int) (w : World) (h : Cod w b t) (hv : 251 ≤ t.verb) (hv' : t.verb ≤ 254) (h0 : 0 ≤ o) (h255 : o ≤ 255) :
    Calls Try.prog 22 #[.pointer (some ⟨b, 0, none⟩), .int .i64 o] w fun e w' => e = .returned (.string ⟨(setl t o).2.toArray⟩) ∧ Cod w' b (setl t o).1 ∧ w.grownBy w' (some b) := by
  have hf : t.verb = 253 ∨ t.verb = 254 ∨ t.verb = 251 ∨ t.verb = 252 := by omega
  unfold setl
  rcases hf with hf | hf | hf | hf
  · rw [if_pos hf]
    by_cases h1 : o = 1
    · subst h1
      rw [if_pos rfl]
      by_cases hn : t.u0 = 0
      · rw [if_pos hn]; exact settle_253_1_a t b w h hf hn
      · rw [if_neg hn]; exact settle_253_1_n t b w h hf (by simpa using hn)
    by_cases h2 : o = 3
    · subst h2
      rw [if_neg h1, if_pos rfl]
      by_cases hn : t.u1 = 0
      · rw [if_pos hn]; exact settle_253_3_a t b w h hf hn
      · rw [if_neg hn]; exact settle_253_3_n t b w h hf (by simpa using hn)
    rw [if_neg h1, if_neg h2]
    exact settle_253_no t b o w h hf (by simpa using h1) (by simpa using h2) h0 h255
  · rw [if_neg (by omega), if_pos hf]
    by_cases h1 : o = 1
    · subst h1
      rw [if_pos rfl]
      by_cases hn : t.u0 = 1
      · rw [if_pos hn]; exact settle_254_1_a t b w h hf hn
      · rw [if_neg hn]; exact settle_254_1_n t b w h hf (by simpa using hn)
    by_cases h2 : o = 3
    · subst h2
      rw [if_neg h1, if_pos rfl]
      by_cases hn : t.u1 = 1
      · rw [if_pos hn]; exact settle_254_3_a t b w h hf hn
      · rw [if_neg hn]; exact settle_254_3_n t b w h hf (by simpa using hn)
    rw [if_neg h1, if_neg h2]
    exact settle_254_no t b o w h hf (by simpa using h1) (by simpa using h2) h0 h255
  · rw [if_neg (by omega), if_neg (by omega), if_pos hf]
    by_cases h1 : o = 3
    · subst h1
      rw [if_pos rfl]
      by_cases hn : t.t1 = 0
      · rw [if_pos hn]; exact settle_251_3_a t b w h hf hn
      · rw [if_neg hn]; exact settle_251_3_n t b w h hf (by simpa using hn)
    by_cases h2 : o = 31
    · subst h2
      rw [if_neg h1, if_pos rfl]
      by_cases hn : t.t2 = 0
      · rw [if_pos hn]; exact settle_251_31_a t b w h hf hn
      · rw [if_neg hn]; exact settle_251_31_n t b w h hf (by simpa using hn)
    rw [if_neg h1, if_neg h2]
    exact settle_251_no t b o w h hf (by simpa using h1) (by simpa using h2) h0 h255
  · rw [if_neg (by omega), if_neg (by omega), if_neg (by omega), if_pos hf]
    by_cases h1 : o = 3
    · subst h1
      rw [if_pos rfl]
      by_cases hn : t.t1 = 1
      · rw [if_pos hn]; exact settle_252_3_a t b w h hf hn
      · rw [if_neg hn]; exact settle_252_3_n t b w h hf (by simpa using hn)
    by_cases h2 : o = 31
    · subst h2
      rw [if_neg h1, if_pos rfl]
      by_cases hn : t.t2 = 1
      · rw [if_pos hn]; exact settle_252_31_a t b w h hf hn
      · rw [if_neg hn]; exact settle_252_31_n t b w h hf (by simpa using hn)
    rw [if_neg h1, if_neg h2]
    exact settle_252_no t b o w h hf (by simpa using h1) (by simpa using h2) h0 h255

end Go.Proofs.Ytbjcmnemcgadjaa
