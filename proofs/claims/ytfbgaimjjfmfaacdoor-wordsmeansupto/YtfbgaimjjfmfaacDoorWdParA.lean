/-
  The contract of Parse, where nothing is done with anything.
-/
import Derived.Test.YtfbgaimjjfmfaacDoorWdDeed
namespace Go.Proofs.YtfbgaimjjfmfaacDoor
open Go.RowKit
set_option linter.unusedVariables false

theorem verbA_some {x : List UInt8} {v : Nat} (h : verbL x = some v) : verbA x = ((v : Int), 0) := by simp [verbA, h]
theorem verbA_none {x : List UInt8} (h : verbL x = none) : verbA x = (0, 3) := by simp [verbA, h]

set_option maxHeartbeats 2000000 in
set_option maxRecDepth 100000 in
theorem parse_none (s : ByteArray) (w : World) (hs : s.size ≤ 8796093022207) (hv : Vb w) (hL : splitL s.data.toList = []) :
    Calls Tryd.prog 5 #[.string s] w fun e w' => e = .returned (.tuple #[.agg (parseL s.data.toList).1.cells, .int .i64 (parseL s.data.toList).2]) ∧ Below w.heap.size w w' := by
  have HV := hide (show parseL s.data.toList = (zo, 1) by simp [parseL, hL])
  have C1 := hide (fun w' => split_any s w' hs)
  rw [hL] at C1
  replace hv := hide hv
  clear hL
  go_enter Tryd.func5, Tryd.ntmps5
  go_wp2_with fail
  refine (C1.out _).mono ?_
  rintro e w1 ⟨u, rfl, hr, hb1⟩
  have z1 := hide ((zo_new w).behind hb1)
  have v1 := hide ((hv.out.alloc _).below hb1 (Nat.le_refl _))
  clear hb1
  obtain ⟨av, cap, rfl, hm⟩ := hr.none
  clear hr
  go_wp2_with (refine wl_put (.tmp 2) (.tmp 15) rfl rfl z1.out rfl 0 0 false ⟨#[]⟩ ⟨#[]⟩ ⟨#[]⟩ rfl ?_)
  refine bodyPost_ret (resO rfl rfl rfl (z1.out.done _).1 rfl) rfl ⟨ret_any ?_, (z1.out.done _).2⟩
  rw [HV.out]; rfl

set_option maxHeartbeats 2000000 in
set_option maxRecDepth 100000 in
theorem parse_noverb (s : ByteArray) (w : World) (hs : s.size ≤ 8796093022207) (hv : Vb w) (x : List UInt8) (rest : List (List UInt8)) (hL : splitL s.data.toList = x :: rest) (hx : verbL x = none) :
    Calls Tryd.prog 5 #[.string s] w fun e w' => e = .returned (.tuple #[.agg (parseL s.data.toList).1.cells, .int .i64 (parseL s.data.toList).2]) ∧ Below w.heap.size w w' := by
  have HV := hide (show parseL s.data.toList = (zo, 3) by simp [parseL, hL, hx])
  have HX := hide (verbA_none hx)
  have hb0 : (((rest.length + 1 : Nat) : Int) == 0) = false := by simp; omega
  have C1 := hide (fun w' => split_any s w' hs)
  rw [hL] at C1
  replace hv := hide hv
  clear hL hx
  go_enter Tryd.func5, Tryd.ntmps5
  go_wp2_with fail
  refine (C1.out _).mono ?_
  rintro e w1 ⟨u, rfl, hr, hb1⟩
  have z1 := hide ((zo_new w).behind hb1)
  have v1 := hide ((hv.out.alloc _).below hb1 (Nat.le_refl _))
  clear hb1
  obtain ⟨b, off, cap, rfl, hl, hm, c0, ht⟩ := hr.cons
  unfold maxLen at hm
  clear hr ht
  go_wp2_with fail
  refine (verb_any (bs x) _ v1.out).mono ?_
  rintro e w2 ⟨rfl, rfl⟩
  rw [bs_data, HX.out]
  go_wp2_with (refine wl_put (.tmp 2) (.tmp 25) rfl rfl z1.out rfl 0 0 false ⟨#[]⟩ ⟨#[]⟩ ⟨#[]⟩ rfl ?_)
  refine bodyPost_ret (resO rfl rfl rfl (z1.out.done _).1 rfl) rfl ⟨ret_any ?_, (z1.out.done _).2⟩
  rw [HV.out]; rfl

set_option maxHeartbeats 2000000 in
set_option maxRecDepth 100000 in
theorem parse_say_none (s : ByteArray) (w : World) (hs : s.size ≤ 8796093022207) (hv : Vb w) (x : List UInt8) (rest : List (List UInt8)) (hL : splitL s.data.toList = x :: rest) (hx : verbL x = some 11) (ho : speechL s.data.toList = none) :
    Calls Tryd.prog 5 #[.string s] w fun e w' => e = .returned (.tuple #[.agg (parseL s.data.toList).1.cells, .int .i64 (parseL s.data.toList).2]) ∧ Below w.heap.size w w' := by
  have HV := hide (show parseL s.data.toList = (zo, 1) by simp [parseL, hL, hx, orderL, ho])
  have HX := hide (verbA_some hx)
  have hb0 : (((rest.length + 1 : Nat) : Int) == 0) = false := by simp; omega
  have C2 := hide (fun w' => speech_any s w' (by omega))
  rw [ho] at C2
  simp only [ordA] at C2
  have C1 := hide (fun w' => split_any s w' hs)
  rw [hL] at C1
  replace hv := hide hv
  clear hL hx ho
  go_enter Tryd.func5, Tryd.ntmps5
  go_wp2_with fail
  refine (C1.out _).mono ?_
  rintro e w1 ⟨u, rfl, hr, hb1⟩
  have z1 := hide ((zo_new w).behind hb1)
  have v1 := hide ((hv.out.alloc _).below hb1 (Nat.le_refl _))
  clear hb1
  obtain ⟨b, off, cap, rfl, hl, hm, c0, ht⟩ := hr.cons
  unfold maxLen at hm
  clear hr ht
  by_cases hc1 : cap = 1
  · subst hc1
    go_wp2_with fail
    refine (verb_any (bs x) _ v1.out).mono ?_
    rintro e w2 ⟨rfl, rfl⟩
    rw [bs_data, HX.out]
    go_wp2_with fail
    refine (C2.out _).mono ?_
    rintro e w3 ⟨rfl, hb3⟩
    have z3 := hide (z1.out.behind hb3)
    clear hb3
    go_wp2_with (refine wl_put (.tmp 2) (.tmp 34) rfl rfl z3.out rfl 0 0 false ⟨#[]⟩ ⟨#[]⟩ ⟨#[]⟩ rfl ?_)
    refine bodyPost_ret (resO rfl rfl rfl (z3.out.done _).1 rfl) rfl ⟨ret_any ?_, (z3.out.done _).2⟩
    rw [HV.out]; rfl
  · skip
    go_wp2_with fail
    refine (verb_any (bs x) _ v1.out).mono ?_
    rintro e w2 ⟨rfl, rfl⟩
    rw [bs_data, HX.out]
    go_wp2_with fail
    refine (C2.out _).mono ?_
    rintro e w3 ⟨rfl, hb3⟩
    have z3 := hide (z1.out.behind hb3)
    clear hb3
    go_wp2_with (refine wl_put (.tmp 2) (.tmp 34) rfl rfl z3.out rfl 0 0 false ⟨#[]⟩ ⟨#[]⟩ ⟨#[]⟩ rfl ?_)
    refine bodyPost_ret (resO rfl rfl rfl (z3.out.done _).1 rfl) rfl ⟨ret_any ?_, (z3.out.done _).2⟩
    rw [HV.out]; rfl

set_option maxHeartbeats 2000000 in
set_option maxRecDepth 100000 in
theorem parse_say_some (s : ByteArray) (w : World) (hs : s.size ≤ 8796093022207) (hv : Vb w) (x : List UInt8) (rest : List (List UInt8)) (hL : splitL s.data.toList = x :: rest) (hx : verbL x = some 11) (o : Ord) (ho : speechL s.data.toList = some o) :
    Calls Tryd.prog 5 #[.string s] w fun e w' => e = .returned (.tuple #[.agg (parseL s.data.toList).1.cells, .int .i64 (parseL s.data.toList).2]) ∧ Below w.heap.size w w' := by
  have HV := hide (show parseL s.data.toList = (o, 0) by simp [parseL, hL, hx, orderL, ho])
  have HX := hide (verbA_some hx)
  have hb0 : (((rest.length + 1 : Nat) : Int) == 0) = false := by simp; omega
  have C2 := hide (fun w' => speech_any s w' (by omega))
  rw [ho] at C2
  simp only [ordA] at C2
  have C1 := hide (fun w' => split_any s w' hs)
  rw [hL] at C1
  replace hv := hide hv
  clear hL hx ho
  go_enter Tryd.func5, Tryd.ntmps5
  go_wp2_with fail
  refine (C1.out _).mono ?_
  rintro e w1 ⟨u, rfl, hr, hb1⟩
  have z1 := hide ((zo_new w).behind hb1)
  have v1 := hide ((hv.out.alloc _).below hb1 (Nat.le_refl _))
  clear hb1
  obtain ⟨b, off, cap, rfl, hl, hm, c0, ht⟩ := hr.cons
  unfold maxLen at hm
  clear hr ht
  by_cases hc1 : cap = 1
  · subst hc1
    go_wp2_with fail
    refine (verb_any (bs x) _ v1.out).mono ?_
    rintro e w2 ⟨rfl, rfl⟩
    rw [bs_data, HX.out]
    go_wp2_with fail
    refine (C2.out _).mono ?_
    rintro e w3 ⟨rfl, hb3⟩
    have z3 := hide (z1.out.behind hb3)
    clear hb3
    go_wp2_with (refine wl_put (.tmp 2) (.tmp 34) rfl rfl z3.out rfl o.verb o.nth o.all (bs o.name) (bs o.second) (bs o.text) rfl ?_)
    refine bodyPost_ret (resO rfl rfl rfl (z3.out.done _).1 rfl) rfl ⟨ret_any ?_, (z3.out.done _).2⟩
    rw [HV.out]; rfl
  · skip
    go_wp2_with fail
    refine (verb_any (bs x) _ v1.out).mono ?_
    rintro e w2 ⟨rfl, rfl⟩
    rw [bs_data, HX.out]
    go_wp2_with fail
    refine (C2.out _).mono ?_
    rintro e w3 ⟨rfl, hb3⟩
    have z3 := hide (z1.out.behind hb3)
    clear hb3
    go_wp2_with (refine wl_put (.tmp 2) (.tmp 34) rfl rfl z3.out rfl o.verb o.nth o.all (bs o.name) (bs o.second) (bs o.text) rfl ?_)
    refine bodyPost_ret (resO rfl rfl rfl (z3.out.done _).1 rfl) rfl ⟨ret_any ?_, (z3.out.done _).2⟩
    rw [HV.out]; rfl

set_option maxHeartbeats 2000000 in
set_option maxRecDepth 100000 in
theorem parse_alone (s : ByteArray) (w : World) (hs : s.size ≤ 8796093022207) (hv : Vb w) (x : List UInt8) (v : Nat) (hL : splitL s.data.toList = [x]) (hx : verbL x = some v) (h11 : v ≠ 11) (ha : aloneB v = true) :
    Calls Tryd.prog 5 #[.string s] w fun e w' => e = .returned (.tuple #[.agg (parseL s.data.toList).1.cells, .int .i64 (parseL s.data.toList).2]) ∧ Below w.heap.size w w' := by
  have HV := hide (show parseL s.data.toList = ({ zo with verb := v }, 0) by simp [parseL, hL, hx, orderL, h11, ha])
  have HX := hide (verbA_some hx)
  have C2 := hide (fun w' => alone_any v w' (verb_lt hx))
  rw [ha] at C2
  have b11 : ((v : Int) == 11) = false := by simp; omega
  have C1 := hide (fun w' => split_any s w' hs)
  rw [hL] at C1
  replace hv := hide hv
  clear hL hx ha h11
  go_enter Tryd.func5, Tryd.ntmps5
  go_wp2_with fail
  refine (C1.out _).mono ?_
  rintro e w1 ⟨u, rfl, hr, hb1⟩
  have z1 := hide ((zo_new w).behind hb1)
  have v1 := hide ((hv.out.alloc _).below hb1 (Nat.le_refl _))
  clear hb1
  obtain ⟨b, off, cap, rfl, hl, hm, c0, ht⟩ := hr.cons
  unfold maxLen at hm
  clear hr ht
  by_cases hc1 : cap = 1
  · subst hc1
    go_wp2_with fail
    refine (verb_any (bs x) _ v1.out).mono ?_
    rintro e w2 ⟨rfl, rfl⟩
    rw [bs_data, HX.out]
    go_wp2_with fail
    refine (C2.out _).mono ?_
    rintro e w3 ⟨rfl, rfl⟩
    go_wp2_with (refine wl_put (.tmp 2) (.tmp 44) rfl rfl z1.out rfl v 0 false ⟨#[]⟩ ⟨#[]⟩ ⟨#[]⟩ rfl ?_)
    refine bodyPost_ret (resO rfl rfl rfl (z1.out.done _).1 rfl) rfl ⟨ret_any ?_, (z1.out.done _).2⟩
    rw [HV.out]; rfl
  · skip
    go_wp2_with fail
    refine (verb_any (bs x) _ v1.out).mono ?_
    rintro e w2 ⟨rfl, rfl⟩
    rw [bs_data, HX.out]
    go_wp2_with fail
    refine (C2.out _).mono ?_
    rintro e w3 ⟨rfl, rfl⟩
    go_wp2_with (refine wl_put (.tmp 2) (.tmp 44) rfl rfl z1.out rfl v 0 false ⟨#[]⟩ ⟨#[]⟩ ⟨#[]⟩ rfl ?_)
    refine bodyPost_ret (resO rfl rfl rfl (z1.out.done _).1 rfl) rfl ⟨ret_any ?_, (z1.out.done _).2⟩
    rw [HV.out]; rfl

set_option maxHeartbeats 2000000 in
set_option maxRecDepth 100000 in
theorem parse_alone_more (s : ByteArray) (w : World) (hs : s.size ≤ 8796093022207) (hv : Vb w) (x y : List UInt8) (r : List (List UInt8)) (v : Nat) (hL : splitL s.data.toList = x :: y :: r) (hx : verbL x = some v) (h11 : v ≠ 11) (ha : aloneB v = true) :
    Calls Tryd.prog 5 #[.string s] w fun e w' => e = .returned (.tuple #[.agg (parseL s.data.toList).1.cells, .int .i64 (parseL s.data.toList).2]) ∧ Below w.heap.size w w' := by
  have HV := hide (show parseL s.data.toList = (zo, 1) by simp [parseL, hL, hx, orderL, h11, ha])
  have HX := hide (verbA_some hx)
  have C2 := hide (fun w' => alone_any v w' (verb_lt hx))
  rw [ha] at C2
  have b11 : ((v : Int) == 11) = false := by simp; omega
  have hb0 : (((r.length + 1 + 1 : Nat) : Int) == 0) = false := by simp; omega
  have hb1 : (((r.length + 1 : Nat) : Int) == 0) = false := by simp; omega
  have C1 := hide (fun w' => split_any s w' hs)
  rw [hL] at C1
  replace hv := hide hv
  clear hL hx ha h11
  go_enter Tryd.func5, Tryd.ntmps5
  go_wp2_with fail
  refine (C1.out _).mono ?_
  rintro e w1 ⟨u, rfl, hr, hb1⟩
  have z1 := hide ((zo_new w).behind hb1)
  have v1 := hide ((hv.out.alloc _).below hb1 (Nat.le_refl _))
  clear hb1
  obtain ⟨b, off, cap, rfl, hl, hm, c0, ht⟩ := hr.cons
  unfold maxLen at hm
  clear hr ht
  have hlen : (y :: r).length = r.length + 1 := rfl
  rw [hlen] at hl ⊢
  clear hlen
  have hc1 : ¬ cap = 1 := by omega
  go_wp2_with fail
  refine (verb_any (bs x) _ v1.out).mono ?_
  rintro e w2 ⟨rfl, rfl⟩
  rw [bs_data, HX.out]
  go_wp2_with fail
  refine (C2.out _).mono ?_
  rintro e w3 ⟨rfl, rfl⟩
  go_wp2_with (refine wl_put (.tmp 2) (.tmp 42) rfl rfl z1.out rfl 0 0 false ⟨#[]⟩ ⟨#[]⟩ ⟨#[]⟩ rfl ?_)
  refine bodyPost_ret (resO rfl rfl rfl (z1.out.done _).1 rfl) rfl ⟨ret_any ?_, (z1.out.done _).2⟩
  rw [HV.out]; rfl

set_option maxHeartbeats 2000000 in
set_option maxRecDepth 100000 in
theorem parse_lacks (s : ByteArray) (w : World) (hs : s.size ≤ 8796093022207) (hv : Vb w) (x : List UInt8) (v : Nat) (hL : splitL s.data.toList = [x]) (hx : verbL x = some v) (h11 : v ≠ 11) (ha : aloneB v = false) :
    Calls Tryd.prog 5 #[.string s] w fun e w' => e = .returned (.tuple #[.agg (parseL s.data.toList).1.cells, .int .i64 (parseL s.data.toList).2]) ∧ Below w.heap.size w w' := by
  have HV := hide (show parseL s.data.toList = (zo, 1) by simp [parseL, hL, hx, orderL, h11, ha])
  have HX := hide (verbA_some hx)
  have C2 := hide (fun w' => alone_any v w' (verb_lt hx))
  rw [ha] at C2
  have b11 : ((v : Int) == 11) = false := by simp; omega
  have C1 := hide (fun w' => split_any s w' hs)
  rw [hL] at C1
  replace hv := hide hv
  clear hL hx ha h11
  go_enter Tryd.func5, Tryd.ntmps5
  go_wp2_with fail
  refine (C1.out _).mono ?_
  rintro e w1 ⟨u, rfl, hr, hb1⟩
  have z1 := hide ((zo_new w).behind hb1)
  have v1 := hide ((hv.out.alloc _).below hb1 (Nat.le_refl _))
  clear hb1
  obtain ⟨b, off, cap, rfl, hl, hm, c0, ht⟩ := hr.cons
  unfold maxLen at hm
  clear hr ht
  by_cases hc1 : cap = 1
  · subst hc1
    go_wp2_with fail
    refine (verb_any (bs x) _ v1.out).mono ?_
    rintro e w2 ⟨rfl, rfl⟩
    rw [bs_data, HX.out]
    go_wp2_with fail
    refine (C2.out _).mono ?_
    rintro e w3 ⟨rfl, rfl⟩
    go_wp2_with (refine wl_put (.tmp 2) (.tmp 49) rfl rfl z1.out rfl 0 0 false ⟨#[]⟩ ⟨#[]⟩ ⟨#[]⟩ rfl ?_)
    refine bodyPost_ret (resO rfl rfl rfl (z1.out.done _).1 rfl) rfl ⟨ret_any ?_, (z1.out.done _).2⟩
    rw [HV.out]; rfl
  · skip
    go_wp2_with fail
    refine (verb_any (bs x) _ v1.out).mono ?_
    rintro e w2 ⟨rfl, rfl⟩
    rw [bs_data, HX.out]
    go_wp2_with fail
    refine (C2.out _).mono ?_
    rintro e w3 ⟨rfl, rfl⟩
    go_wp2_with (refine wl_put (.tmp 2) (.tmp 49) rfl rfl z1.out rfl 0 0 false ⟨#[]⟩ ⟨#[]⟩ ⟨#[]⟩ rfl ?_)
    refine bodyPost_ret (resO rfl rfl rfl (z1.out.done _).1 rfl) rfl ⟨ret_any ?_, (z1.out.done _).2⟩
    rw [HV.out]; rfl

end Go.Proofs.YtfbgaimjjfmfaacDoor
