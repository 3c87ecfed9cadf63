/-
  The contract of asked of the document's own answer, at option 31.
-/
import Derived.Test.YtbjcmnemcgadjaaAskA
import Derived.Test.YtbjcmnemcgadjaaEq
namespace Go.Proofs.Ytbjcmnemcgadjaa
open Go.RowKit Go.Maps
set_option linter.unusedVariables false

set_option maxRecDepth 100000 in
set_option maxHeartbeats 1000000 in
theorem asked_31_253 (t : Tel) (w : World) :
    Calls Try.prog 27 #[t.val, .int .i64 253, .int .i64 31] w fun e w' => e = .returned (.tuple #[t.val, .string (sayB 252 31)]) ∧ Below w.heap.size w w' := by
  have hmm := @run_makeMap Try.prog
  have hm0 := World.ownsMap_made (H := Unit) ((w.alloc (.cells t.cells 25)).alloc (.cells zt.cells 25)) Try.prog 3 (plainElem Try.prog 3)
  have k1 := keyOf_int_mk (P := Try.prog) (k := 3) Try.underlying3 (wf_of 1 (by omega) (by omega))
  have k3 := keyOf_int_mk (P := Try.prog) (k := 3) Try.underlying3 (wf_of 3 (by omega) (by omega))
  have k31 := keyOf_int_mk (P := Try.prog) (k := 3) Try.underlying3 (wf_of 31 (by omega) (by omega))
  have ko := keyOf_int_mk (P := Try.prog) (k := 3) Try.underlying3 (wf_of 31 (by omega) (by omega))
  have p0 := plainElem_int (H := Unit) (P := Try.prog) (e := 3) Try.underlying3 (wf_of 0 (by omega) (by omega))
  have p1 := plainElem_int (H := Unit) (P := Try.prog) (e := 3) Try.underlying3 (wf_of 1 (by omega) (by omega))
  have p2 := plainElem_int (H := Unit) (P := Try.prog) (e := 3) Try.underlying3 (wf_of 2 (by omega) (by omega))
  have x0 : 0 < maxLen := by unfold maxLen; omega
  have x1 : 0 + 1 < maxLen := by unfold maxLen; omega
  have x2 : 0 + 1 + 1 < maxLen := by unfold maxLen; omega
  have hh : Maps.has ((((DataW.map (H := Unit) []).put (.int .i64 1) (.lit (.int .i64 0))).put (.int .i64 3) (.lit (.int .i64 1))).put (.int .i64 31) (.lit (.int .i64 2))) (.int .i64 31) = true := (mapD_31).2
  have ha : ((((DataW.map (H := Unit) []).put (.int .i64 1) (.lit (.int .i64 0))).put (.int .i64 3) (.lit (.int .i64 1))).put (.int .i64 31) (.lit (.int .i64 2))).atKey (.int .i64 31) (.lit (.int .i64 0)) = .lit (.int .i64 2) := (mapD_31).1
  have HA := hide ha
  clear ha
  unfold Tel.val Tel.cells
  unfold Tel.cells zt at hm0
  simp only [World.size_alloc] at hm0
  go_enter Try.func27, Try.ntmps27
  go_wp2_with (first | (refine wp_insert _ rfl _ _ _ 53 rfl 3 3 Try.keyed Try.underlying53 _ _ 0 _ rfl hm0 x0 (.int .i64 1) _ _ rfl rfl k1 _ [] p0 ?_; intro w1 ho1 hg1) | (refine wp_insert _ rfl _ _ _ 53 rfl 3 3 Try.keyed Try.underlying53 _ _ (0 + 1) _ rfl ho1 x1 (.int .i64 3) _ _ rfl rfl k3 _ [] p1 ?_; intro w2 ho2 hg2) | (refine wp_insert _ rfl _ _ _ 53 rfl 3 3 Try.keyed Try.underlying53 _ _ (0 + 1 + 1) _ rfl ho2 x2 (.int .i64 31) _ _ rfl rfl k31 _ [] p2 ?_; intro w3 ho3 hg3; obtain ⟨q3, r3, l3⟩ := map_world hg1 hg2 hg3; have z3 := r3.lt; have y3 := q3.lt; obtain ⟨c0, c1, c2, c3, c4, c5, c6, c7, c8, c9, cfz⟩ := q3.all; obtain ⟨d0, d1, d2, d3, d4, d5, d6, d7, d8, d9, dfz⟩ := r3.all) | (at_lookup; refine wpList_lookup_own_ok_int _ rfl _ _ 53 rfl 3 3 .i64 Try.keyed Try.underlying53 Try.underlying3 (Try.zero3 _) _ (0 + 1 + 1 + 1) _ rfl ho3 _ _ rfl ko ?_; intro c hat hwc; have hc : c = 2 := lit_int (HA.out.symm.trans hat)))
  go_region_with (go_at_call 26; refine (bytesOf3 _ 252 31 (by omega) (by omega) (by omega) (by omega) _ ?_ ?_ ?_ ?_).mono ?_; (go_simp); (go_simp); (go_simp); (go_simp); rintro e w4 ⟨rfl, hb4⟩; obtain ⟨q4, r4, l4⟩ := say_world q3 r3 l3 hb4; have z4 := r4.lt; have y4 := q4.lt; obtain ⟨s0, s1, s2, s3, s4, s5, s6, s7, s8, s9, sfz⟩ := q4.all; obtain ⟨v0, v1, v2, v3, v4, v5, v6, v7, v8, v9, vfz⟩ := r4.all)
  all_goals go_wp2
  all_goals exact bodyPost_ret (res2 Try.results27 rfl rfl (cod_ten r4)) rfl ⟨rfl, below_ten l4 (by omega)⟩

set_option maxRecDepth 100000 in
set_option maxHeartbeats 1000000 in
theorem asked_31_251_a (t : Tel) (w : World) (hn : t.t2 = 0) :
    Calls Try.prog 27 #[t.val, .int .i64 251, .int .i64 31] w fun e w' => e = .returned (.tuple #[({ t with t2 := 1 } : Tel).val, .string (sayB 253 31)]) ∧ Below w.heap.size w w' := by
  have HN := hide hn
  clear hn
  have hmm := @run_makeMap Try.prog
  have hm0 := World.ownsMap_made (H := Unit) ((w.alloc (.cells t.cells 25)).alloc (.cells zt.cells 25)) Try.prog 3 (plainElem Try.prog 3)
  have k1 := keyOf_int_mk (P := Try.prog) (k := 3) Try.underlying3 (wf_of 1 (by omega) (by omega))
  have k3 := keyOf_int_mk (P := Try.prog) (k := 3) Try.underlying3 (wf_of 3 (by omega) (by omega))
  have k31 := keyOf_int_mk (P := Try.prog) (k := 3) Try.underlying3 (wf_of 31 (by omega) (by omega))
  have ko := keyOf_int_mk (P := Try.prog) (k := 3) Try.underlying3 (wf_of 31 (by omega) (by omega))
  have p0 := plainElem_int (H := Unit) (P := Try.prog) (e := 3) Try.underlying3 (wf_of 0 (by omega) (by omega))
  have p1 := plainElem_int (H := Unit) (P := Try.prog) (e := 3) Try.underlying3 (wf_of 1 (by omega) (by omega))
  have p2 := plainElem_int (H := Unit) (P := Try.prog) (e := 3) Try.underlying3 (wf_of 2 (by omega) (by omega))
  have x0 : 0 < maxLen := by unfold maxLen; omega
  have x1 : 0 + 1 < maxLen := by unfold maxLen; omega
  have x2 : 0 + 1 + 1 < maxLen := by unfold maxLen; omega
  have hh : Maps.has ((((DataW.map (H := Unit) []).put (.int .i64 1) (.lit (.int .i64 0))).put (.int .i64 3) (.lit (.int .i64 1))).put (.int .i64 31) (.lit (.int .i64 2))) (.int .i64 31) = true := (mapD_31).2
  have ha : ((((DataW.map (H := Unit) []).put (.int .i64 1) (.lit (.int .i64 0))).put (.int .i64 3) (.lit (.int .i64 1))).put (.int .i64 31) (.lit (.int .i64 2))).atKey (.int .i64 31) (.lit (.int .i64 0)) = .lit (.int .i64 2) := (mapD_31).1
  have HA := hide ha
  clear ha
  unfold Tel.val Tel.cells
  unfold Tel.cells zt at hm0
  simp only [World.size_alloc] at hm0
  go_enter Try.func27, Try.ntmps27
  go_wp2_with (first | (refine wp_insert _ rfl _ _ _ 53 rfl 3 3 Try.keyed Try.underlying53 _ _ 0 _ rfl hm0 x0 (.int .i64 1) _ _ rfl rfl k1 _ [] p0 ?_; intro w1 ho1 hg1) | (refine wp_insert _ rfl _ _ _ 53 rfl 3 3 Try.keyed Try.underlying53 _ _ (0 + 1) _ rfl ho1 x1 (.int .i64 3) _ _ rfl rfl k3 _ [] p1 ?_; intro w2 ho2 hg2) | (refine wp_insert _ rfl _ _ _ 53 rfl 3 3 Try.keyed Try.underlying53 _ _ (0 + 1 + 1) _ rfl ho2 x2 (.int .i64 31) _ _ rfl rfl k31 _ [] p2 ?_; intro w3 ho3 hg3; obtain ⟨q3, r3, l3⟩ := map_world hg1 hg2 hg3; have z3 := r3.lt; have y3 := q3.lt; obtain ⟨c0, c1, c2, c3, c4, c5, c6, c7, c8, c9, cfz⟩ := q3.all; obtain ⟨d0, d1, d2, d3, d4, d5, d6, d7, d8, d9, dfz⟩ := r3.all ; rw [HN.out] at c8) | (at_lookup; refine wpList_lookup_own_ok_int _ rfl _ _ 53 rfl 3 3 .i64 Try.keyed Try.underlying53 Try.underlying3 (Try.zero3 _) _ (0 + 1 + 1 + 1) _ rfl ho3 _ _ rfl ko ?_; intro c hat hwc; have hc : c = 2 := lit_int (HA.out.symm.trans hat)))
  go_region_with (go_at_call 26; refine (bytesOf3 _ 253 31 (by omega) (by omega) (by omega) (by omega) _ ?_ ?_ ?_ ?_).mono ?_; (go_simp); (go_simp); (go_simp); (go_simp); rintro e w4 ⟨rfl, hb4⟩; obtain ⟨q4, r4, l4⟩ := set_world ({ t with t2 := 1 } : Tel) q3 r3 l3 hb4 rfl; have z4 := r4.lt; have y4 := q4.lt; obtain ⟨s0, s1, s2, s3, s4, s5, s6, s7, s8, s9, sfz⟩ := q4.all; obtain ⟨v0, v1, v2, v3, v4, v5, v6, v7, v8, v9, vfz⟩ := r4.all)
  all_goals go_wp2
  all_goals exact bodyPost_ret (res2 Try.results27 rfl rfl (cod_ten (t := ({ t with t2 := 1 } : Tel)) r4)) rfl ⟨rfl, below_ten (t := ({ t with t2 := 1 } : Tel)) l4 (by omega)⟩

set_option maxRecDepth 100000 in
set_option maxHeartbeats 1000000 in
theorem asked_31_251_n (t : Tel) (w : World) (hn : (t.t2 == 0) = false) :
    Calls Try.prog 27 #[t.val, .int .i64 251, .int .i64 31] w fun e w' => e = .returned (.tuple #[({ t with t2 := 1 } : Tel).val, .string ⟨#[]⟩]) ∧ Below w.heap.size w w' := by
  have hmm := @run_makeMap Try.prog
  have hm0 := World.ownsMap_made (H := Unit) ((w.alloc (.cells t.cells 25)).alloc (.cells zt.cells 25)) Try.prog 3 (plainElem Try.prog 3)
  have k1 := keyOf_int_mk (P := Try.prog) (k := 3) Try.underlying3 (wf_of 1 (by omega) (by omega))
  have k3 := keyOf_int_mk (P := Try.prog) (k := 3) Try.underlying3 (wf_of 3 (by omega) (by omega))
  have k31 := keyOf_int_mk (P := Try.prog) (k := 3) Try.underlying3 (wf_of 31 (by omega) (by omega))
  have ko := keyOf_int_mk (P := Try.prog) (k := 3) Try.underlying3 (wf_of 31 (by omega) (by omega))
  have p0 := plainElem_int (H := Unit) (P := Try.prog) (e := 3) Try.underlying3 (wf_of 0 (by omega) (by omega))
  have p1 := plainElem_int (H := Unit) (P := Try.prog) (e := 3) Try.underlying3 (wf_of 1 (by omega) (by omega))
  have p2 := plainElem_int (H := Unit) (P := Try.prog) (e := 3) Try.underlying3 (wf_of 2 (by omega) (by omega))
  have x0 : 0 < maxLen := by unfold maxLen; omega
  have x1 : 0 + 1 < maxLen := by unfold maxLen; omega
  have x2 : 0 + 1 + 1 < maxLen := by unfold maxLen; omega
  have hh : Maps.has ((((DataW.map (H := Unit) []).put (.int .i64 1) (.lit (.int .i64 0))).put (.int .i64 3) (.lit (.int .i64 1))).put (.int .i64 31) (.lit (.int .i64 2))) (.int .i64 31) = true := (mapD_31).2
  have ha : ((((DataW.map (H := Unit) []).put (.int .i64 1) (.lit (.int .i64 0))).put (.int .i64 3) (.lit (.int .i64 1))).put (.int .i64 31) (.lit (.int .i64 2))).atKey (.int .i64 31) (.lit (.int .i64 0)) = .lit (.int .i64 2) := (mapD_31).1
  have HA := hide ha
  clear ha
  unfold Tel.val Tel.cells
  unfold Tel.cells zt at hm0
  simp only [World.size_alloc] at hm0
  go_enter Try.func27, Try.ntmps27
  go_wp2_with (first | (refine wp_insert _ rfl _ _ _ 53 rfl 3 3 Try.keyed Try.underlying53 _ _ 0 _ rfl hm0 x0 (.int .i64 1) _ _ rfl rfl k1 _ [] p0 ?_; intro w1 ho1 hg1) | (refine wp_insert _ rfl _ _ _ 53 rfl 3 3 Try.keyed Try.underlying53 _ _ (0 + 1) _ rfl ho1 x1 (.int .i64 3) _ _ rfl rfl k3 _ [] p1 ?_; intro w2 ho2 hg2) | (refine wp_insert _ rfl _ _ _ 53 rfl 3 3 Try.keyed Try.underlying53 _ _ (0 + 1 + 1) _ rfl ho2 x2 (.int .i64 31) _ _ rfl rfl k31 _ [] p2 ?_; intro w3 ho3 hg3; obtain ⟨q3, r3, l3⟩ := map_world hg1 hg2 hg3; have z3 := r3.lt; have y3 := q3.lt; obtain ⟨c0, c1, c2, c3, c4, c5, c6, c7, c8, c9, cfz⟩ := q3.all; obtain ⟨d0, d1, d2, d3, d4, d5, d6, d7, d8, d9, dfz⟩ := r3.all) | (at_lookup; refine wpList_lookup_own_ok_int _ rfl _ _ 53 rfl 3 3 .i64 Try.keyed Try.underlying53 Try.underlying3 (Try.zero3 _) _ (0 + 1 + 1 + 1) _ rfl ho3 _ _ rfl ko ?_; intro c hat hwc; have hc : c = 2 := lit_int (HA.out.symm.trans hat)))
  exact bodyPost_ret (res2 Try.results27 rfl rfl (cod_ten (t := ({ t with t2 := 1 } : Tel)) (cod_mk (cod_ne r3 (by omega) _ _) rfl))) rfl ⟨rfl, below_ten (t := ({ t with t2 := 1 } : Tel)) (l3.setCell (Nat.le_refl _) _) (by omega)⟩

set_option maxRecDepth 100000 in
set_option maxHeartbeats 1000000 in
theorem asked_31_254 (t : Tel) (w : World) :
    Calls Try.prog 27 #[t.val, .int .i64 254, .int .i64 31] w fun e w' => e = .returned (.tuple #[t.val, .string ⟨#[]⟩]) ∧ Below w.heap.size w w' := by
  have hmm := @run_makeMap Try.prog
  have hm0 := World.ownsMap_made (H := Unit) ((w.alloc (.cells t.cells 25)).alloc (.cells zt.cells 25)) Try.prog 3 (plainElem Try.prog 3)
  have k1 := keyOf_int_mk (P := Try.prog) (k := 3) Try.underlying3 (wf_of 1 (by omega) (by omega))
  have k3 := keyOf_int_mk (P := Try.prog) (k := 3) Try.underlying3 (wf_of 3 (by omega) (by omega))
  have k31 := keyOf_int_mk (P := Try.prog) (k := 3) Try.underlying3 (wf_of 31 (by omega) (by omega))
  have ko := keyOf_int_mk (P := Try.prog) (k := 3) Try.underlying3 (wf_of 31 (by omega) (by omega))
  have p0 := plainElem_int (H := Unit) (P := Try.prog) (e := 3) Try.underlying3 (wf_of 0 (by omega) (by omega))
  have p1 := plainElem_int (H := Unit) (P := Try.prog) (e := 3) Try.underlying3 (wf_of 1 (by omega) (by omega))
  have p2 := plainElem_int (H := Unit) (P := Try.prog) (e := 3) Try.underlying3 (wf_of 2 (by omega) (by omega))
  have x0 : 0 < maxLen := by unfold maxLen; omega
  have x1 : 0 + 1 < maxLen := by unfold maxLen; omega
  have x2 : 0 + 1 + 1 < maxLen := by unfold maxLen; omega
  have hh : Maps.has ((((DataW.map (H := Unit) []).put (.int .i64 1) (.lit (.int .i64 0))).put (.int .i64 3) (.lit (.int .i64 1))).put (.int .i64 31) (.lit (.int .i64 2))) (.int .i64 31) = true := (mapD_31).2
  have ha : ((((DataW.map (H := Unit) []).put (.int .i64 1) (.lit (.int .i64 0))).put (.int .i64 3) (.lit (.int .i64 1))).put (.int .i64 31) (.lit (.int .i64 2))).atKey (.int .i64 31) (.lit (.int .i64 0)) = .lit (.int .i64 2) := (mapD_31).1
  have HA := hide ha
  clear ha
  unfold Tel.val Tel.cells
  unfold Tel.cells zt at hm0
  simp only [World.size_alloc] at hm0
  go_enter Try.func27, Try.ntmps27
  go_wp2_with (first | (refine wp_insert _ rfl _ _ _ 53 rfl 3 3 Try.keyed Try.underlying53 _ _ 0 _ rfl hm0 x0 (.int .i64 1) _ _ rfl rfl k1 _ [] p0 ?_; intro w1 ho1 hg1) | (refine wp_insert _ rfl _ _ _ 53 rfl 3 3 Try.keyed Try.underlying53 _ _ (0 + 1) _ rfl ho1 x1 (.int .i64 3) _ _ rfl rfl k3 _ [] p1 ?_; intro w2 ho2 hg2) | (refine wp_insert _ rfl _ _ _ 53 rfl 3 3 Try.keyed Try.underlying53 _ _ (0 + 1 + 1) _ rfl ho2 x2 (.int .i64 31) _ _ rfl rfl k31 _ [] p2 ?_; intro w3 ho3 hg3; obtain ⟨q3, r3, l3⟩ := map_world hg1 hg2 hg3; have z3 := r3.lt; have y3 := q3.lt; obtain ⟨c0, c1, c2, c3, c4, c5, c6, c7, c8, c9, cfz⟩ := q3.all; obtain ⟨d0, d1, d2, d3, d4, d5, d6, d7, d8, d9, dfz⟩ := r3.all) | (at_lookup; refine wpList_lookup_own_ok_int _ rfl _ _ 53 rfl 3 3 .i64 Try.keyed Try.underlying53 Try.underlying3 (Try.zero3 _) _ (0 + 1 + 1 + 1) _ rfl ho3 _ _ rfl ko ?_; intro c hat hwc; have hc : c = 2 := lit_int (HA.out.symm.trans hat)))
  exact bodyPost_ret (res2 Try.results27 rfl rfl (cod_ten r3)) rfl ⟨rfl, below_ten l3 (by omega)⟩

set_option maxRecDepth 100000 in
set_option maxHeartbeats 1000000 in
theorem asked_31_252_a (t : Tel) (w : World) (hn : t.t2 = 1) :
    Calls Try.prog 27 #[t.val, .int .i64 252, .int .i64 31] w fun e w' => e = .returned (.tuple #[({ t with t2 := 0 } : Tel).val, .string (sayB 254 31)]) ∧ Below w.heap.size w w' := by
  have HN := hide hn
  clear hn
  have hmm := @run_makeMap Try.prog
  have hm0 := World.ownsMap_made (H := Unit) ((w.alloc (.cells t.cells 25)).alloc (.cells zt.cells 25)) Try.prog 3 (plainElem Try.prog 3)
  have k1 := keyOf_int_mk (P := Try.prog) (k := 3) Try.underlying3 (wf_of 1 (by omega) (by omega))
  have k3 := keyOf_int_mk (P := Try.prog) (k := 3) Try.underlying3 (wf_of 3 (by omega) (by omega))
  have k31 := keyOf_int_mk (P := Try.prog) (k := 3) Try.underlying3 (wf_of 31 (by omega) (by omega))
  have ko := keyOf_int_mk (P := Try.prog) (k := 3) Try.underlying3 (wf_of 31 (by omega) (by omega))
  have p0 := plainElem_int (H := Unit) (P := Try.prog) (e := 3) Try.underlying3 (wf_of 0 (by omega) (by omega))
  have p1 := plainElem_int (H := Unit) (P := Try.prog) (e := 3) Try.underlying3 (wf_of 1 (by omega) (by omega))
  have p2 := plainElem_int (H := Unit) (P := Try.prog) (e := 3) Try.underlying3 (wf_of 2 (by omega) (by omega))
  have x0 : 0 < maxLen := by unfold maxLen; omega
  have x1 : 0 + 1 < maxLen := by unfold maxLen; omega
  have x2 : 0 + 1 + 1 < maxLen := by unfold maxLen; omega
  have hh : Maps.has ((((DataW.map (H := Unit) []).put (.int .i64 1) (.lit (.int .i64 0))).put (.int .i64 3) (.lit (.int .i64 1))).put (.int .i64 31) (.lit (.int .i64 2))) (.int .i64 31) = true := (mapD_31).2
  have ha : ((((DataW.map (H := Unit) []).put (.int .i64 1) (.lit (.int .i64 0))).put (.int .i64 3) (.lit (.int .i64 1))).put (.int .i64 31) (.lit (.int .i64 2))).atKey (.int .i64 31) (.lit (.int .i64 0)) = .lit (.int .i64 2) := (mapD_31).1
  have HA := hide ha
  clear ha
  unfold Tel.val Tel.cells
  unfold Tel.cells zt at hm0
  simp only [World.size_alloc] at hm0
  go_enter Try.func27, Try.ntmps27
  go_wp2_with (first | (refine wp_insert _ rfl _ _ _ 53 rfl 3 3 Try.keyed Try.underlying53 _ _ 0 _ rfl hm0 x0 (.int .i64 1) _ _ rfl rfl k1 _ [] p0 ?_; intro w1 ho1 hg1) | (refine wp_insert _ rfl _ _ _ 53 rfl 3 3 Try.keyed Try.underlying53 _ _ (0 + 1) _ rfl ho1 x1 (.int .i64 3) _ _ rfl rfl k3 _ [] p1 ?_; intro w2 ho2 hg2) | (refine wp_insert _ rfl _ _ _ 53 rfl 3 3 Try.keyed Try.underlying53 _ _ (0 + 1 + 1) _ rfl ho2 x2 (.int .i64 31) _ _ rfl rfl k31 _ [] p2 ?_; intro w3 ho3 hg3; obtain ⟨q3, r3, l3⟩ := map_world hg1 hg2 hg3; have z3 := r3.lt; have y3 := q3.lt; obtain ⟨c0, c1, c2, c3, c4, c5, c6, c7, c8, c9, cfz⟩ := q3.all; obtain ⟨d0, d1, d2, d3, d4, d5, d6, d7, d8, d9, dfz⟩ := r3.all ; rw [HN.out] at c8) | (at_lookup; refine wpList_lookup_own_ok_int _ rfl _ _ 53 rfl 3 3 .i64 Try.keyed Try.underlying53 Try.underlying3 (Try.zero3 _) _ (0 + 1 + 1 + 1) _ rfl ho3 _ _ rfl ko ?_; intro c hat hwc; have hc : c = 2 := lit_int (HA.out.symm.trans hat)))
  go_region_with (go_at_call 26; refine (bytesOf3 _ 254 31 (by omega) (by omega) (by omega) (by omega) _ ?_ ?_ ?_ ?_).mono ?_; (go_simp); (go_simp); (go_simp); (go_simp); rintro e w4 ⟨rfl, hb4⟩; obtain ⟨q4, r4, l4⟩ := set_world ({ t with t2 := 0 } : Tel) q3 r3 l3 hb4 rfl; have z4 := r4.lt; have y4 := q4.lt; obtain ⟨s0, s1, s2, s3, s4, s5, s6, s7, s8, s9, sfz⟩ := q4.all; obtain ⟨v0, v1, v2, v3, v4, v5, v6, v7, v8, v9, vfz⟩ := r4.all)
  all_goals go_wp2
  all_goals exact bodyPost_ret (res2 Try.results27 rfl rfl (cod_ten (t := ({ t with t2 := 0 } : Tel)) r4)) rfl ⟨rfl, below_ten (t := ({ t with t2 := 0 } : Tel)) l4 (by omega)⟩

set_option maxRecDepth 100000 in
set_option maxHeartbeats 1000000 in
theorem asked_31_252_n (t : Tel) (w : World) (hn : (t.t2 == 1) = false) :
    Calls Try.prog 27 #[t.val, .int .i64 252, .int .i64 31] w fun e w' => e = .returned (.tuple #[({ t with t2 := 0 } : Tel).val, .string ⟨#[]⟩]) ∧ Below w.heap.size w w' := by
  have hmm := @run_makeMap Try.prog
  have hm0 := World.ownsMap_made (H := Unit) ((w.alloc (.cells t.cells 25)).alloc (.cells zt.cells 25)) Try.prog 3 (plainElem Try.prog 3)
  have k1 := keyOf_int_mk (P := Try.prog) (k := 3) Try.underlying3 (wf_of 1 (by omega) (by omega))
  have k3 := keyOf_int_mk (P := Try.prog) (k := 3) Try.underlying3 (wf_of 3 (by omega) (by omega))
  have k31 := keyOf_int_mk (P := Try.prog) (k := 3) Try.underlying3 (wf_of 31 (by omega) (by omega))
  have ko := keyOf_int_mk (P := Try.prog) (k := 3) Try.underlying3 (wf_of 31 (by omega) (by omega))
  have p0 := plainElem_int (H := Unit) (P := Try.prog) (e := 3) Try.underlying3 (wf_of 0 (by omega) (by omega))
  have p1 := plainElem_int (H := Unit) (P := Try.prog) (e := 3) Try.underlying3 (wf_of 1 (by omega) (by omega))
  have p2 := plainElem_int (H := Unit) (P := Try.prog) (e := 3) Try.underlying3 (wf_of 2 (by omega) (by omega))
  have x0 : 0 < maxLen := by unfold maxLen; omega
  have x1 : 0 + 1 < maxLen := by unfold maxLen; omega
  have x2 : 0 + 1 + 1 < maxLen := by unfold maxLen; omega
  have hh : Maps.has ((((DataW.map (H := Unit) []).put (.int .i64 1) (.lit (.int .i64 0))).put (.int .i64 3) (.lit (.int .i64 1))).put (.int .i64 31) (.lit (.int .i64 2))) (.int .i64 31) = true := (mapD_31).2
  have ha : ((((DataW.map (H := Unit) []).put (.int .i64 1) (.lit (.int .i64 0))).put (.int .i64 3) (.lit (.int .i64 1))).put (.int .i64 31) (.lit (.int .i64 2))).atKey (.int .i64 31) (.lit (.int .i64 0)) = .lit (.int .i64 2) := (mapD_31).1
  have HA := hide ha
  clear ha
  unfold Tel.val Tel.cells
  unfold Tel.cells zt at hm0
  simp only [World.size_alloc] at hm0
  go_enter Try.func27, Try.ntmps27
  go_wp2_with (first | (refine wp_insert _ rfl _ _ _ 53 rfl 3 3 Try.keyed Try.underlying53 _ _ 0 _ rfl hm0 x0 (.int .i64 1) _ _ rfl rfl k1 _ [] p0 ?_; intro w1 ho1 hg1) | (refine wp_insert _ rfl _ _ _ 53 rfl 3 3 Try.keyed Try.underlying53 _ _ (0 + 1) _ rfl ho1 x1 (.int .i64 3) _ _ rfl rfl k3 _ [] p1 ?_; intro w2 ho2 hg2) | (refine wp_insert _ rfl _ _ _ 53 rfl 3 3 Try.keyed Try.underlying53 _ _ (0 + 1 + 1) _ rfl ho2 x2 (.int .i64 31) _ _ rfl rfl k31 _ [] p2 ?_; intro w3 ho3 hg3; obtain ⟨q3, r3, l3⟩ := map_world hg1 hg2 hg3; have z3 := r3.lt; have y3 := q3.lt; obtain ⟨c0, c1, c2, c3, c4, c5, c6, c7, c8, c9, cfz⟩ := q3.all; obtain ⟨d0, d1, d2, d3, d4, d5, d6, d7, d8, d9, dfz⟩ := r3.all) | (at_lookup; refine wpList_lookup_own_ok_int _ rfl _ _ 53 rfl 3 3 .i64 Try.keyed Try.underlying53 Try.underlying3 (Try.zero3 _) _ (0 + 1 + 1 + 1) _ rfl ho3 _ _ rfl ko ?_; intro c hat hwc; have hc : c = 2 := lit_int (HA.out.symm.trans hat)))
  exact bodyPost_ret (res2 Try.results27 rfl rfl (cod_ten (t := ({ t with t2 := 0 } : Tel)) (cod_mk (cod_ne r3 (by omega) _ _) rfl))) rfl ⟨rfl, below_ten (t := ({ t with t2 := 0 } : Tel)) (l3.setCell (Nat.le_refl _) _) (by omega)⟩

end Go.Proofs.Ytbjcmnemcgadjaa
