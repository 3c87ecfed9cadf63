/-
  The contract of second.
-/
import Derived.Test.YtfbgaimjjfmfaacDoorWdTrim
namespace Go.Proofs.YtfbgaimjjfmfaacDoor
open Go.RowKit
set_option linter.unusedVariables false

theorem bs_toList (l : List UInt8) : (bs l).toList = l := by rw [Lib.toList_data, bs_data]

/-- v is a list of these texts. -/
def Rd (w : World) (v : Value) (q : List (List UInt8)) : Prop := Reads w v (q.map bs)

section
variable {w : World} {v : Value} {x : List UInt8} {r : List (List UInt8)}
theorem Rd.none (h : Rd w v []) : ∃ av cap, v = .slice av 0 cap ∧ cap ≤ maxLen := by
  obtain ⟨av, cap, e, hl, hm, _, _⟩ := h
  exact ⟨av, cap, by simpa using e, hm⟩
theorem Rd.shape (h : Rd w v r) : ∃ av cap, v = .slice av r.length cap ∧ r.length ≤ cap ∧ cap ≤ maxLen := by
  obtain ⟨av, cap, e, hl, hm, _, _⟩ := h
  exact ⟨av, cap, by simpa using e, by simpa using hl, hm⟩
theorem Rd.cons (h : Rd w v (x :: r)) : ∃ b off cap, v = .slice (some ⟨b, off, Option.none⟩) (r.length + 1) cap ∧ r.length + 1 ≤ cap ∧ cap ≤ maxLen ∧ w.cell? ⟨b, off, Option.none⟩ = some (.string (bs x)) ∧
    Rd w (.slice (if cap = 1 then some ⟨b, off, Option.none⟩ else some ⟨b, off + 1, Option.none⟩) r.length (cap - 1)) r := by
  have h' := h
  obtain ⟨av, cap, e, hl, hm, hn, hc⟩ := h
  obtain ⟨b, off, rfl, hcell⟩ := hc (by simp)
  subst e
  refine ⟨b, off, cap, by simp, by simpa using hl, hm, by simpa using hcell 0 (by simp), ?_⟩
  have := reads_tail (f := bs x) (r := r.map bs) (b := b) (off := off) (cap := cap) h'
  simpa [Rd] using this
theorem Rd.below {w' : World} {B : Nat} (h : Rd w v r) (hb : Below B w w') (hB : w.heap.size ≤ B) : Rd w' v r := Reads.below h hb hB
theorem Rd.alloc (h : Rd w v r) (o : Obj) : Rd (w.alloc o) v r := Reads.alloc h o
end

/-- What second answers. -/
def secA (v : Nat) (rest : List (List UInt8)) : List UInt8 × Bool := match secondL v rest with | some x => (x, true) | none => ([], false)

theorem ret_sec {a b : List UInt8} {x y : Bool} (h : (a, x) = (b, y)) : Ending.returned (.tuple #[.string (bs a), .bool x]) = .returned (.tuple #[.string (bs b), .bool y]) := by
  simp at h; rw [h.1, h.2]

theorem joins_at (x : List UInt8) : joins x = ((x == [102, 114, 111, 109]) || (x == [105, 110]) || (x == [116, 111])) := by
  simp [joins, Bool.beq_eq_decide_eq]

set_option maxHeartbeats 4000000 in
set_option maxRecDepth 100000 in
theorem second_other (v : Nat) (rest : List (List UInt8)) (u : Value) (w : World) (h7 : v ≠ 7) (h9 : v ≠ 9) (h10 : v ≠ 10) (hr : Rd w u rest) :
    Calls Tryd.prog 31 #[.int .i64 (v : Int), u] w fun e w' => e = .returned (.tuple #[.string (bs (secA v rest).1), .bool (secA v rest).2]) ∧ w' = w := by
  obtain ⟨av, cap, rfl, hl, hm⟩ := hr.shape
  have b7 : ((v : Int) != 7) = true := by simp; omega
  have b9 : ((v : Int) != 9) = true := by simp; omega
  have b10 : ((v : Int) != 10) = true := by simp; omega
  unfold maxLen at hm
  clear hr
  cases rest with
  | nil =>
    have HV := hide (show secA v [] = ([], true) by simp [secA, secondL, h7, h9, h10])
    go_enter Tryd.func31, Tryd.ntmps31
    go_wp2
    go_ret2
    exact ⟨ret_sec (by rw [HV.out]), rfl⟩
  | cons x r =>
    have HV := hide (show secA v (x :: r) = ([], false) by simp [secA, secondL, h7, h9, h10])
    have hlen : (x :: r).length = r.length + 1 := rfl
    rw [hlen] at hl ⊢
    clear hlen
    generalize r.length = m at hl
    have hb : (((m + 1 : Nat) : Int) == 0) = false := by simp; omega
    go_enter Tryd.func31, Tryd.ntmps31
    go_wp2
    go_ret2
    exact ⟨ret_sec (by rw [HV.out]; simp; omega), rfl⟩

set_option maxHeartbeats 4000000 in
set_option maxRecDepth 100000 in
theorem second_nil (v : Nat) (u : Value) (w : World) (hw : v = 7 ∨ v = 9 ∨ v = 10) (hr : Rd w u []) :
    Calls Tryd.prog 31 #[.int .i64 (v : Int), u] w fun e w' => e = .returned (.tuple #[.string (bs (secA v []).1), .bool (secA v []).2]) ∧ w' = w := by
  obtain ⟨av, cap, rfl, hm⟩ := hr.none
  have HV := hide (show secA v [] = ([], decide (v = 7)) by
    rcases hw with h | h | h <;> subst h <;> rfl)
  clear hr
  rcases hw with rfl | rfl | rfl
  all_goals go_enter Tryd.func31, Tryd.ntmps31
  all_goals go_wp2
  all_goals go_ret2
  all_goals exact ⟨ret_sec HV.out.symm, rfl⟩

set_option maxHeartbeats 4000000 in
set_option maxRecDepth 100000 in
theorem second_plain (v : Nat) (x : List UInt8) (r : List (List UInt8)) (u : Value) (w : World) (hw : v = 7 ∨ v = 9 ∨ v = 10) (hj : joins x = false) (hr : Rd w u (x :: r)) :
    Calls Tryd.prog 31 #[.int .i64 (v : Int), u] w fun e w' => e = .returned (.tuple #[.string (bs (secA v (x :: r)).1), .bool (secA v (x :: r)).2]) ∧ w' = w := by
  obtain ⟨b, off, cap, rfl, hl, hm, c0, _⟩ := hr.cons
  have hbt := bs_toList
  have hj1 : (x == [102, 114, 111, 109]) = false ∧ (x == [105, 110]) = false ∧ (x == [116, 111]) = false := by
    have hj' := hj
    rw [joins_at] at hj'; simp at hj'; simp [hj']
  obtain ⟨j1, j2, j3⟩ := hj1
  unfold maxLen at hm
  clear hr
  cases r with
  | nil =>
    have HV := hide (show secA v [x] = (x, true) by simp [secA, secondL, hw, hj, lone])
    clear hj
    rcases hw with rfl | rfl | rfl
    all_goals go_enter Tryd.func31, Tryd.ntmps31
    all_goals go_wp2
    all_goals go_ret2
    all_goals exact ⟨ret_sec HV.out.symm, rfl⟩
  | cons y r =>
    have HV := hide (show secA v (x :: y :: r) = ([], false) by simp [secA, secondL, hw, hj, lone])
    have hlen : (y :: r).length = r.length + 1 := rfl
    rw [hlen] at hl ⊢
    clear hlen hj
    generalize r.length = m at hl
    have hb : (((m + 1 + 1 : Nat) : Int) == 1) = false := by simp; omega
    have hb0 : (((m + 1 + 1 : Nat) : Int) == 0) = false := by simp; omega
    rcases hw with rfl | rfl | rfl
    all_goals go_enter Tryd.func31, Tryd.ntmps31
    all_goals go_wp2
    all_goals go_ret2
    all_goals exact ⟨ret_sec HV.out.symm, rfl⟩

set_option maxHeartbeats 4000000 in
set_option maxRecDepth 100000 in
theorem second_join0 (v : Nat) (x : List UInt8) (u : Value) (w : World) (hw : v = 7 ∨ v = 9 ∨ v = 10) (hj : joins x = true) (hr : Rd w u [x]) :
    Calls Tryd.prog 31 #[.int .i64 (v : Int), u] w fun e w' => e = .returned (.tuple #[.string (bs (secA v [x]).1), .bool (secA v [x]).2]) ∧ w' = w := by
  obtain ⟨b, off, cap, rfl, hl, hm, c0, ht⟩ := hr.cons
  have hbt := bs_toList
  have HV := hide (show secA v [x] = ([], false) by simp [secA, secondL, hw, hj, lone])
  rw [joins_at] at hj
  unfold maxLen at hm
  clear hr
  clear ht
  cases j1 : (x == [102, 114, 111, 109])
  · cases j2 : (x == [105, 110])
    · have j3 : (x == [116, 111]) = true := by rw [j1, j2] at hj; simpa using hj
      clear hj
      rcases hw with rfl | rfl | rfl
      all_goals go_enter Tryd.func31, Tryd.ntmps31
      all_goals go_wp2
      all_goals go_ret2
      all_goals exact ⟨ret_sec HV.out.symm, rfl⟩
    · clear hj
      rcases hw with rfl | rfl | rfl
      all_goals go_enter Tryd.func31, Tryd.ntmps31
      all_goals go_wp2
      all_goals go_ret2
      all_goals exact ⟨ret_sec HV.out.symm, rfl⟩
  · clear hj
    rcases hw with rfl | rfl | rfl
    all_goals go_enter Tryd.func31, Tryd.ntmps31
    all_goals go_wp2
    all_goals go_ret2
    all_goals exact ⟨ret_sec HV.out.symm, rfl⟩

set_option maxHeartbeats 4000000 in
set_option maxRecDepth 100000 in
theorem second_join1 (v : Nat) (x : List UInt8) (y : List UInt8) (u : Value) (w : World) (hw : v = 7 ∨ v = 9 ∨ v = 10) (hj : joins x = true) (hr : Rd w u [x, y]) :
    Calls Tryd.prog 31 #[.int .i64 (v : Int), u] w fun e w' => e = .returned (.tuple #[.string (bs (secA v [x, y]).1), .bool (secA v [x, y]).2]) ∧ w' = w := by
  obtain ⟨b, off, cap, rfl, hl, hm, c0, ht⟩ := hr.cons
  have hbt := bs_toList
  have HV := hide (show secA v [x, y] = (y, true) by simp [secA, secondL, hw, hj, lone])
  rw [joins_at] at hj
  unfold maxLen at hm
  clear hr
  have hc1 : ¬ cap = 1 := by simp at hl; omega
  rw [if_neg hc1] at ht
  obtain ⟨b', off', cap', e, _, _, c1, _⟩ := ht.cons
  injection e with e1; injection e1 with e1; injection e1 with e1 e2
  subst e1 e2
  simp only [List.length_cons, List.length_nil] at hl ⊢
  cases j1 : (x == [102, 114, 111, 109])
  · cases j2 : (x == [105, 110])
    · have j3 : (x == [116, 111]) = true := by rw [j1, j2] at hj; simpa using hj
      clear hj
      rcases hw with rfl | rfl | rfl
      all_goals go_enter Tryd.func31, Tryd.ntmps31
      all_goals go_wp2
      all_goals go_ret2
      all_goals exact ⟨ret_sec HV.out.symm, rfl⟩
    · clear hj
      rcases hw with rfl | rfl | rfl
      all_goals go_enter Tryd.func31, Tryd.ntmps31
      all_goals go_wp2
      all_goals go_ret2
      all_goals exact ⟨ret_sec HV.out.symm, rfl⟩
  · clear hj
    rcases hw with rfl | rfl | rfl
    all_goals go_enter Tryd.func31, Tryd.ntmps31
    all_goals go_wp2
    all_goals go_ret2
    all_goals exact ⟨ret_sec HV.out.symm, rfl⟩

set_option maxHeartbeats 4000000 in
set_option maxRecDepth 100000 in
theorem second_join2 (v : Nat) (x : List UInt8) (y z : List UInt8) (r : List (List UInt8)) (u : Value) (w : World) (hw : v = 7 ∨ v = 9 ∨ v = 10) (hj : joins x = true) (hr : Rd w u (x :: y :: z :: r)) :
    Calls Tryd.prog 31 #[.int .i64 (v : Int), u] w fun e w' => e = .returned (.tuple #[.string (bs (secA v (x :: y :: z :: r)).1), .bool (secA v (x :: y :: z :: r)).2]) ∧ w' = w := by
  obtain ⟨b, off, cap, rfl, hl, hm, c0, ht⟩ := hr.cons
  have hbt := bs_toList
  have HV := hide (show secA v (x :: y :: z :: r) = ([], false) by simp [secA, secondL, hw, hj, lone])
  rw [joins_at] at hj
  unfold maxLen at hm
  clear hr
  have hc1 : ¬ cap = 1 := by simp at hl; omega
  rw [if_neg hc1] at ht
  clear ht
  have hlen : (y :: z :: r).length = r.length + 2 := rfl
  rw [hlen] at hl ⊢
  clear hlen
  generalize r.length = m at hl
  have hb : (((m + 2 : Nat) : Int) == 1) = false := by simp; omega
  have hb0 : (((m + 2 + 1 : Nat) : Int) == 0) = false := by simp; omega
  cases j1 : (x == [102, 114, 111, 109])
  · cases j2 : (x == [105, 110])
    · have j3 : (x == [116, 111]) = true := by rw [j1, j2] at hj; simpa using hj
      clear hj
      rcases hw with rfl | rfl | rfl
      all_goals go_enter Tryd.func31, Tryd.ntmps31
      all_goals go_wp2
      all_goals go_ret2
      all_goals exact ⟨ret_sec HV.out.symm, rfl⟩
    · clear hj
      rcases hw with rfl | rfl | rfl
      all_goals go_enter Tryd.func31, Tryd.ntmps31
      all_goals go_wp2
      all_goals go_ret2
      all_goals exact ⟨ret_sec HV.out.symm, rfl⟩
  · clear hj
    rcases hw with rfl | rfl | rfl
    all_goals go_enter Tryd.func31, Tryd.ntmps31
    all_goals go_wp2
    all_goals go_ret2
    all_goals exact ⟨ret_sec HV.out.symm, rfl⟩

theorem second_any (v : Nat) (rest : List (List UInt8)) (u : Value) (w : World) (hr : Rd w u rest) :
    Calls Tryd.prog 31 #[.int .i64 (v : Int), u] w fun e w' => e = .returned (.tuple #[.string (bs (secA v rest).1), .bool (secA v rest).2]) ∧ w' = w := by
  by_cases hw : v = 7 ∨ v = 9 ∨ v = 10
  · match rest, hr with
    | [], hr => exact second_nil v u w hw hr
    | x :: r, hr =>
      cases hj : joins x
      · exact second_plain v x r u w hw hj hr
      · match r, hr with
        | [], hr => exact second_join0 v x u w hw hj hr
        | [y], hr => exact second_join1 v x y u w hw hj hr
        | y :: z :: r, hr => exact second_join2 v x y z r u w hw hj hr
  · exact second_other v rest u w (by omega) (by omega) (by omega) hr
end Go.Proofs.YtfbgaimjjfmfaacDoor
