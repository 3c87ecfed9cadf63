/-
  The contract of Parse, where something is done.
-/
import Derived.Test.YtfbgaimjjfmfaacDoorWdParA
namespace Go.Proofs.YtfbgaimjjfmfaacDoor
open Go.RowKit
set_option linter.unusedVariables false

/-- What deed answers. -/
def deedR (v : Nat) (y : List UInt8) (r : List (List UInt8)) : Ord × Int := match deedL v y r with | some o => (o, 0) | none => (zo, 1)
theorem ordA_deed (v : Nat) (y : List UInt8) (r : List (List UInt8)) : ordA (deedL v y r) = .tuple #[.agg (deedR v y r).1.cells, .int .i64 (deedR v y r).2] := by
  unfold deedR
  cases deedL v y r <;> rfl
theorem deed_r (v : Nat) (y : List UInt8) (r : List (List UInt8)) (u : Value) (w : World) (hs : y.length ≤ 140737488355328) (hr : Rd w u r) :
    Calls Tryd.prog 21 #[.int .i64 (v : Int), .string (bs y), u] w fun e w' => e = .returned (.tuple #[.agg #[.int .i64 (deedR v y r).1.verb, .int .i64 (deedR v y r).1.nth, .bool (deedR v y r).1.all, .string (bs (deedR v y r).1.name), .string (bs (deedR v y r).1.second), .string (bs (deedR v y r).1.text)], .int .i64 (deedR v y r).2]) ∧ Below w.heap.size w w' := by
  have h := deed_any v (bs y) r u w (by rw [bs_size]; exact hs) hr
  rw [bs_data, ordA_deed] at h
  exact h

section
variable {w0 w : World} {b : Nat}
theorem Zo.cell (h : Zo w0 b w) (o : Nat) : w.cell? ⟨b, o, none⟩ = zo.cells[o]? := by
  have := h.blk; simp [World.cell?, this]
theorem Zo.frozen (h : Zo w0 b w) (o : Nat) : w.frozen? ⟨b, o, none⟩ = false := by
  have := h.blk; simp [World.frozen?, this]
theorem Zo.drew (h : Zo w0 b w) : Zo w0 b w.drew := ⟨h.lo, h.blk, h.below.os, h.below.tape, h.below.output, h.below.size, h.below.block⟩
theorem Zo.six (h : Zo w0 b w) (v0 v1 v2 v3 v4 v5 : Value) :
    ((((((w.setCell ⟨b, 0, none⟩ v0).setCell ⟨b, 1, none⟩ v1).setCell ⟨b, 2, none⟩ v2).setCell ⟨b, 3, none⟩ v3).setCell ⟨b, 4, none⟩ v4).setCell ⟨b, 5, none⟩ v5).heap[b]? = some (.cells #[v0, v1, v2, v3, v4, v5] 23 (0, 0)) := by
  have h0 := heap_setCell_same w b 0 _ 23 v0 h.blk
  have h1 := heap_setCell_same _ b 1 _ 23 v1 h0
  have h2 := heap_setCell_same _ b 2 _ 23 v2 h1
  have h3 := heap_setCell_same _ b 3 _ 23 v3 h2
  have h4 := heap_setCell_same _ b 4 _ 23 v4 h3
  have h5 := heap_setCell_same _ b 5 _ 23 v5 h4
  rw [h5]
  simp [Ord.cells]
theorem Zo.six_below (h : Zo w0 b w) (v0 v1 v2 v3 v4 v5 : Value) :
    Below w0.heap.size w0 ((((((w.setCell ⟨b, 0, none⟩ v0).setCell ⟨b, 1, none⟩ v1).setCell ⟨b, 2, none⟩ v2).setCell ⟨b, 3, none⟩ v3).setCell ⟨b, 4, none⟩ v4).setCell ⟨b, 5, none⟩ v5) :=
  (((((h.below.setCell h.lo _).setCell h.lo _).setCell h.lo _).setCell h.lo _).setCell h.lo _).setCell h.lo _
end

set_option maxHeartbeats 2000000 in
set_option maxRecDepth 100000 in
theorem parse_deed (s : ByteArray) (w : World) (hs : s.size ≤ 8796093022207) (hv : Vb w) (x y : List UInt8) (r : List (List UInt8)) (v : Nat) (hL : splitL s.data.toList = x :: y :: r) (hx : verbL x = some v) (h11 : v ≠ 11) (h12 : v ≠ 12) (h13 : v ≠ 13) (ha : aloneB v = false) :
    Calls Tryd.prog 5 #[.string s] w fun e w' => e = .returned (.tuple #[.agg (parseL s.data.toList).1.cells, .int .i64 (parseL s.data.toList).2]) ∧ Below w.heap.size w w' := by
  have HV := hide (show parseL s.data.toList = ((deedR v y r).1, (deedR v y r).2) by simp [parseL, hL, hx, orderL, h11, h12, h13, ha, deedR]; cases deedL v y r <;> rfl)
  have HX := hide (verbA_some hx)
  have C2 := hide (fun w' => alone_any v w' (verb_lt hx))
  rw [ha] at C2
  have HL : Hid (y.length ≤ 140737488355328) := by
    have h1 := split_short (l := s.data.toList) (y := y) (by rw [hL]; simp)
    rw [size_len] at h1
    show y.length ≤ _
    omega
  have b11 : ((v : Int) == 11) = false := by simp; omega
  have b12 : ((v : Int) == 12) = false := by simp; omega
  have b13 : ((v : Int) == 13) = false := by simp; omega
  have hb0 : (((r.length + 1 + 1 : Nat) : Int) == 0) = false := by simp; omega
  have hb1 : (((r.length + 1 : Nat) : Int) == 0) = false := by simp; omega
  have C1 := hide (fun w' => split_any s w' hs)
  rw [hL] at C1
  replace hv := hide hv
  clear hL hx ha h11 h12 h13
  go_enter Tryd.func5, Tryd.ntmps5
  go_wp2_with fail
  refine (C1.out _).mono ?_
  rintro e w1 ⟨u, rfl, hr, hb1⟩
  have z1 := hide ((zo_new w).behind hb1)
  have v1 := hide ((hv.out.alloc _).below hb1 (Nat.le_refl _))
  clear hb1
  obtain ⟨b, off, cap, rfl, hl, hm, c0, ht⟩ := hr.cons
  unfold maxLen at hm
  clear hr
  have hlen : (y :: r).length = r.length + 1 := rfl
  rw [hlen] at hl ht ⊢
  clear hlen
  have hc1 : ¬ cap = 1 := by omega
  rw [if_neg hc1] at ht
  obtain ⟨b', off', cap', e, _, _, c1, hd⟩ := ht.cons
  injection e with e1 e2 e3; injection e1 with e1; injection e1 with e1 e2
  subst e1 e2 e3
  clear ht
  by_cases hc2 : cap - 1 = 1
  · obtain rfl : cap = 2 := by omega
    obtain rfl : r = [] := List.eq_nil_of_length_eq_zero (by omega)
    simp only [List.length_nil, Nat.zero_add, Nat.reduceSub, Nat.reduceAdd, if_true] at hd hl hc1 hc2 ⊢
    go_wp2_with fail
    refine (verb_any (bs x) _ v1.out).mono ?_
    rintro e w2 ⟨rfl, rfl⟩
    rw [bs_data, HX.out]
    go_wp2_with fail
    refine (C2.out _).mono ?_
    rintro e w3 ⟨rfl, rfl⟩
    go_wp2
    have C3 := hide (deed_r v y [] _ w3.drew HL.out (hd.below (w' := w3.drew) ⟨rfl, rfl, rfl, Nat.le_refl _, fun _ _ => rfl⟩ (Nat.le_refl _)))
    have zd := hide z1.out.drew
    generalize (deedR v y []).1 = o at C3 HV
    generalize (deedR v y []).2 = n at C3 HV
    clear z1 hd c0
    go_region_with (go_at_call 21; refine C3.out.mono ?_; rintro e w4 ⟨rfl, hb4⟩; have z4 := hide (zd.out.behind hb4); have k0 : w4.cell? ⟨w.heap.size, 0, none⟩ = some _ := z4.out.cell 0; have k1 : w4.cell? ⟨w.heap.size, 1, none⟩ = some _ := z4.out.cell 1; have k2 : w4.cell? ⟨w.heap.size, 2, none⟩ = some _ := z4.out.cell 2; have k3 : w4.cell? ⟨w.heap.size, 3, none⟩ = some _ := z4.out.cell 3; have k4 : w4.cell? ⟨w.heap.size, 4, none⟩ = some _ := z4.out.cell 4; have k5 : w4.cell? ⟨w.heap.size, 5, none⟩ = some _ := z4.out.cell 5; have kf := z4.out.frozen; clear hb4)
    all_goals go_wp2
    all_goals refine bodyPost_ret (resO rfl rfl rfl (z4.out.six _ _ _ _ _ _) rfl) rfl ⟨ret_any ?_, z4.out.six_below _ _ _ _ _ _⟩
    all_goals rw [HV.out]
    all_goals rfl
  · rw [if_neg hc2] at hd
    go_wp2_with fail
    refine (verb_any (bs x) _ v1.out).mono ?_
    rintro e w2 ⟨rfl, rfl⟩
    rw [bs_data, HX.out]
    go_wp2_with fail
    refine (C2.out _).mono ?_
    rintro e w3 ⟨rfl, rfl⟩
    go_wp2
    have C3 := hide (deed_r v y r _ w3.drew HL.out (hd.below (w' := w3.drew) ⟨rfl, rfl, rfl, Nat.le_refl _, fun _ _ => rfl⟩ (Nat.le_refl _)))
    have zd := hide z1.out.drew
    generalize (deedR v y r).1 = o at C3 HV
    generalize (deedR v y r).2 = n at C3 HV
    clear z1 hd c0
    go_region_with (go_at_call 21; refine C3.out.mono ?_; rintro e w4 ⟨rfl, hb4⟩; have z4 := hide (zd.out.behind hb4); have k0 : w4.cell? ⟨w.heap.size, 0, none⟩ = some _ := z4.out.cell 0; have k1 : w4.cell? ⟨w.heap.size, 1, none⟩ = some _ := z4.out.cell 1; have k2 : w4.cell? ⟨w.heap.size, 2, none⟩ = some _ := z4.out.cell 2; have k3 : w4.cell? ⟨w.heap.size, 3, none⟩ = some _ := z4.out.cell 3; have k4 : w4.cell? ⟨w.heap.size, 4, none⟩ = some _ := z4.out.cell 4; have k5 : w4.cell? ⟨w.heap.size, 5, none⟩ = some _ := z4.out.cell 5; have kf := z4.out.frozen; clear hb4)
    all_goals go_wp2
    all_goals refine bodyPost_ret (resO rfl rfl rfl (z4.out.six _ _ _ _ _ _) rfl) rfl ⟨ret_any ?_, z4.out.six_below _ _ _ _ _ _⟩
    all_goals rw [HV.out]
    all_goals rfl
end Go.Proofs.YtfbgaimjjfmfaacDoor
