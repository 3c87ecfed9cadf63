/-
  The contract of deed.
-/
import Derived.Test.YtfbgaimjjfmfaacDoorWdOrd
namespace Go.Proofs.YtfbgaimjjfmfaacDoor
open Go.RowKit
set_option linter.unusedVariables false

set_option maxHeartbeats 2000000 in
set_option maxRecDepth 100000 in
theorem deed_none (v : Nat) (s : ByteArray) (rest : List (List UInt8)) (u : Value) (w : World) (hs : s.size ≤ 140737488355328) (hr : Rd w u rest) (hn : nounL s.data.toList = none) :
    Calls Tryd.prog 21 #[.int .i64 (v : Int), .string s, u] w fun e w' => e = .returned (ordA (deedL v s.data.toList rest)) ∧ Below w.heap.size w w' := by
  have HV := hide (show deedL v s.data.toList rest = none by simp [deedL, hn])
  have C1 := hide (fun w' => noun_b s w' hs)
  rw [hn] at C1
  simp only [nounA] at C1
  replace hr := hide hr
  clear hn
  go_enter Tryd.func21, Tryd.ntmps21
  go_wp2_with fail
  refine (C1.out _).mono ?_
  rintro e w1 ⟨rfl, hb1⟩
  have z1 := hide ((zo_new w).behind hb1)
  have r1 := hide ((hr.out.alloc _).below hb1 (Nat.le_refl _))
  clear hb1
  go_wp2_with (refine wl_put (.tmp 6) (.tmp 38) rfl rfl z1.out rfl 0 0 false ⟨#[]⟩ ⟨#[]⟩ ⟨#[]⟩ rfl ?_)
  refine bodyPost_ret (resO rfl rfl rfl (z1.out.done _).1 rfl) rfl ⟨ret_any ?_, (z1.out.done _).2⟩
  rw [HV.out]; rfl

set_option maxHeartbeats 2000000 in
set_option maxRecDepth 100000 in
theorem deed_wrong (v : Nat) (s : ByteArray) (rest : List (List UInt8)) (u : Value) (w : World) (hs : s.size ≤ 140737488355328) (hr : Rd w u rest) (n : Nat) (name : List UInt8) (hn : nounL s.data.toList = some (n, name, true)) (h7 : v ≠ 7) (h8 : v ≠ 8) (h9 : v ≠ 9) :
    Calls Tryd.prog 21 #[.int .i64 (v : Int), .string s, u] w fun e w' => e = .returned (ordA (deedL v s.data.toList rest)) ∧ Below w.heap.size w w' := by
  have HV := hide (show deedL v s.data.toList rest = none by simp [deedL, hn, h7, h8, h9])
  have C1 := hide (fun w' => noun_b s w' hs)
  rw [hn] at C1
  simp only [nounA] at C1
  have b7 : ((v : Int) != 7) = true := by simp; omega
  have b8 : ((v : Int) != 8) = true := by simp; omega
  have b9 : ((v : Int) != 9) = true := by simp; omega
  replace hr := hide hr
  clear hn h7 h8 h9
  go_enter Tryd.func21, Tryd.ntmps21
  go_wp2_with fail
  refine (C1.out _).mono ?_
  rintro e w1 ⟨rfl, hb1⟩
  have z1 := hide ((zo_new w).behind hb1)
  have r1 := hide ((hr.out.alloc _).below hb1 (Nat.le_refl _))
  clear hb1
  go_wp2_with (refine wl_put (.tmp 6) (.tmp 38) rfl rfl z1.out rfl 0 0 false ⟨#[]⟩ ⟨#[]⟩ ⟨#[]⟩ rfl ?_)
  refine bodyPost_ret (resO rfl rfl rfl (z1.out.done _).1 rfl) rfl ⟨ret_any ?_, (z1.out.done _).2⟩
  rw [HV.out]; rfl

set_option maxHeartbeats 2000000 in
set_option maxRecDepth 100000 in
theorem deed_one_none (v : Nat) (s : ByteArray) (rest : List (List UInt8)) (u : Value) (w : World) (hs : s.size ≤ 140737488355328) (hr : Rd w u rest) (n : Nat) (name : List UInt8) (hn : nounL s.data.toList = some (n, name, false)) (h2 : secondL v rest = none) :
    Calls Tryd.prog 21 #[.int .i64 (v : Int), .string s, u] w fun e w' => e = .returned (ordA (deedL v s.data.toList rest)) ∧ Below w.heap.size w w' := by
  have HV := hide (show deedL v s.data.toList rest = none by simp [deedL, hn, h2])
  have C1 := hide (fun w' => noun_b s w' hs)
  have C2 := hide (fun w' h => second_any v rest u w' h)
  rw [hn] at C1
  simp only [nounA] at C1
  simp only [secA, h2] at C2
  replace hr := hide hr
  clear hn h2
  go_enter Tryd.func21, Tryd.ntmps21
  go_wp2_with fail
  refine (C1.out _).mono ?_
  rintro e w1 ⟨rfl, hb1⟩
  have z1 := hide ((zo_new w).behind hb1)
  have r1 := hide ((hr.out.alloc _).below hb1 (Nat.le_refl _))
  clear hb1
  go_wp2_with fail
  refine (C2.out _ r1.out).mono ?_
  rintro e w2 ⟨rfl, rfl⟩
  go_wp2_with (refine wl_put (.tmp 6) (.tmp 47) rfl rfl z1.out rfl 0 0 false ⟨#[]⟩ ⟨#[]⟩ ⟨#[]⟩ rfl ?_)
  refine bodyPost_ret (resO rfl rfl rfl (z1.out.done _).1 rfl) rfl ⟨ret_any ?_, (z1.out.done _).2⟩
  rw [HV.out]; rfl

set_option maxHeartbeats 2000000 in
set_option maxRecDepth 100000 in
theorem deed_one_some (v : Nat) (s : ByteArray) (rest : List (List UInt8)) (u : Value) (w : World) (hs : s.size ≤ 140737488355328) (hr : Rd w u rest) (n : Nat) (name : List UInt8) (hn : nounL s.data.toList = some (n, name, false)) (to : List UInt8) (h2 : secondL v rest = some to) :
    Calls Tryd.prog 21 #[.int .i64 (v : Int), .string s, u] w fun e w' => e = .returned (ordA (deedL v s.data.toList rest)) ∧ Below w.heap.size w w' := by
  have HV := hide (show deedL v s.data.toList rest = some { verb := v, nth := n, all := false, name := name, second := to, text := [] } by simp [deedL, hn, h2])
  have C1 := hide (fun w' => noun_b s w' hs)
  have C2 := hide (fun w' h => second_any v rest u w' h)
  rw [hn] at C1
  simp only [nounA] at C1
  simp only [secA, h2] at C2
  replace hr := hide hr
  clear hn h2
  go_enter Tryd.func21, Tryd.ntmps21
  go_wp2_with fail
  refine (C1.out _).mono ?_
  rintro e w1 ⟨rfl, hb1⟩
  have z1 := hide ((zo_new w).behind hb1)
  have r1 := hide ((hr.out.alloc _).below hb1 (Nat.le_refl _))
  clear hb1
  go_wp2_with fail
  refine (C2.out _ r1.out).mono ?_
  rintro e w2 ⟨rfl, rfl⟩
  go_wp2_with (refine wl_put (.tmp 6) (.tmp 53) rfl rfl z1.out rfl v n false (bs name) (bs to) ⟨#[]⟩ rfl ?_)
  refine bodyPost_ret (resO rfl rfl rfl (z1.out.done _).1 rfl) rfl ⟨ret_any ?_, (z1.out.done _).2⟩
  rw [HV.out]; rfl

set_option maxHeartbeats 2000000 in
set_option maxRecDepth 100000 in
theorem deed_all7_none (v : Nat) (s : ByteArray) (rest : List (List UInt8)) (u : Value) (w : World) (hs : s.size ≤ 140737488355328) (hr : Rd w u rest) (n : Nat) (name : List UInt8) (hn : nounL s.data.toList = some (n, name, true)) (hv : v = 7) (h2 : secondL v rest = none) :
    Calls Tryd.prog 21 #[.int .i64 (v : Int), .string s, u] w fun e w' => e = .returned (ordA (deedL v s.data.toList rest)) ∧ Below w.heap.size w w' := by
  have HV := hide (show deedL v s.data.toList rest = none by simp [deedL, hn, h2])
  have C1 := hide (fun w' => noun_b s w' hs)
  have C2 := hide (fun w' h => second_any v rest u w' h)
  rw [hn] at C1
  simp only [nounA] at C1
  simp only [secA, h2] at C2
  have b7 : ((v : Int) != 7) = false := by subst hv; rfl
  replace hr := hide hr
  clear hn h2 hv
  go_enter Tryd.func21, Tryd.ntmps21
  go_wp2_with fail
  refine (C1.out _).mono ?_
  rintro e w1 ⟨rfl, hb1⟩
  have z1 := hide ((zo_new w).behind hb1)
  have r1 := hide ((hr.out.alloc _).below hb1 (Nat.le_refl _))
  clear hb1
  go_wp2_with fail
  refine (C2.out _ r1.out).mono ?_
  rintro e w2 ⟨rfl, rfl⟩
  go_wp2_with (refine wl_put (.tmp 6) (.tmp 47) rfl rfl z1.out rfl 0 0 false ⟨#[]⟩ ⟨#[]⟩ ⟨#[]⟩ rfl ?_)
  refine bodyPost_ret (resO rfl rfl rfl (z1.out.done _).1 rfl) rfl ⟨ret_any ?_, (z1.out.done _).2⟩
  rw [HV.out]; rfl

set_option maxHeartbeats 2000000 in
set_option maxRecDepth 100000 in
theorem deed_all7_some (v : Nat) (s : ByteArray) (rest : List (List UInt8)) (u : Value) (w : World) (hs : s.size ≤ 140737488355328) (hr : Rd w u rest) (n : Nat) (name : List UInt8) (hn : nounL s.data.toList = some (n, name, true)) (hv : v = 7) (to : List UInt8) (h2 : secondL v rest = some to) :
    Calls Tryd.prog 21 #[.int .i64 (v : Int), .string s, u] w fun e w' => e = .returned (ordA (deedL v s.data.toList rest)) ∧ Below w.heap.size w w' := by
  have HV := hide (show deedL v s.data.toList rest = some { verb := v, nth := n, all := true, name := name, second := to, text := [] } by simp [deedL, hn, h2]; omega)
  have C1 := hide (fun w' => noun_b s w' hs)
  have C2 := hide (fun w' h => second_any v rest u w' h)
  rw [hn] at C1
  simp only [nounA] at C1
  simp only [secA, h2] at C2
  have b7 : ((v : Int) != 7) = false := by subst hv; rfl
  replace hr := hide hr
  clear hn h2 hv
  go_enter Tryd.func21, Tryd.ntmps21
  go_wp2_with fail
  refine (C1.out _).mono ?_
  rintro e w1 ⟨rfl, hb1⟩
  have z1 := hide ((zo_new w).behind hb1)
  have r1 := hide ((hr.out.alloc _).below hb1 (Nat.le_refl _))
  clear hb1
  go_wp2_with fail
  refine (C2.out _ r1.out).mono ?_
  rintro e w2 ⟨rfl, rfl⟩
  go_wp2_with (refine wl_put (.tmp 6) (.tmp 53) rfl rfl z1.out rfl v n true (bs name) (bs to) ⟨#[]⟩ rfl ?_)
  refine bodyPost_ret (resO rfl rfl rfl (z1.out.done _).1 rfl) rfl ⟨ret_any ?_, (z1.out.done _).2⟩
  rw [HV.out]; rfl

set_option maxHeartbeats 2000000 in
set_option maxRecDepth 100000 in
theorem deed_all8_none (v : Nat) (s : ByteArray) (rest : List (List UInt8)) (u : Value) (w : World) (hs : s.size ≤ 140737488355328) (hr : Rd w u rest) (n : Nat) (name : List UInt8) (hn : nounL s.data.toList = some (n, name, true)) (hv : v = 8) (h2 : secondL v rest = none) :
    Calls Tryd.prog 21 #[.int .i64 (v : Int), .string s, u] w fun e w' => e = .returned (ordA (deedL v s.data.toList rest)) ∧ Below w.heap.size w w' := by
  have HV := hide (show deedL v s.data.toList rest = none by simp [deedL, hn, h2])
  have C1 := hide (fun w' => noun_b s w' hs)
  have C2 := hide (fun w' h => second_any v rest u w' h)
  rw [hn] at C1
  simp only [nounA] at C1
  simp only [secA, h2] at C2
  have b7 : ((v : Int) != 7) = true := by subst hv; rfl
  have b8 : ((v : Int) != 8) = false := by subst hv; rfl
  replace hr := hide hr
  clear hn h2 hv
  go_enter Tryd.func21, Tryd.ntmps21
  go_wp2_with fail
  refine (C1.out _).mono ?_
  rintro e w1 ⟨rfl, hb1⟩
  have z1 := hide ((zo_new w).behind hb1)
  have r1 := hide ((hr.out.alloc _).below hb1 (Nat.le_refl _))
  clear hb1
  go_wp2_with fail
  refine (C2.out _ r1.out).mono ?_
  rintro e w2 ⟨rfl, rfl⟩
  go_wp2_with (refine wl_put (.tmp 6) (.tmp 47) rfl rfl z1.out rfl 0 0 false ⟨#[]⟩ ⟨#[]⟩ ⟨#[]⟩ rfl ?_)
  refine bodyPost_ret (resO rfl rfl rfl (z1.out.done _).1 rfl) rfl ⟨ret_any ?_, (z1.out.done _).2⟩
  rw [HV.out]; rfl

set_option maxHeartbeats 2000000 in
set_option maxRecDepth 100000 in
theorem deed_all8_some (v : Nat) (s : ByteArray) (rest : List (List UInt8)) (u : Value) (w : World) (hs : s.size ≤ 140737488355328) (hr : Rd w u rest) (n : Nat) (name : List UInt8) (hn : nounL s.data.toList = some (n, name, true)) (hv : v = 8) (to : List UInt8) (h2 : secondL v rest = some to) :
    Calls Tryd.prog 21 #[.int .i64 (v : Int), .string s, u] w fun e w' => e = .returned (ordA (deedL v s.data.toList rest)) ∧ Below w.heap.size w w' := by
  have HV := hide (show deedL v s.data.toList rest = some { verb := v, nth := n, all := true, name := name, second := to, text := [] } by simp [deedL, hn, h2]; omega)
  have C1 := hide (fun w' => noun_b s w' hs)
  have C2 := hide (fun w' h => second_any v rest u w' h)
  rw [hn] at C1
  simp only [nounA] at C1
  simp only [secA, h2] at C2
  have b7 : ((v : Int) != 7) = true := by subst hv; rfl
  have b8 : ((v : Int) != 8) = false := by subst hv; rfl
  replace hr := hide hr
  clear hn h2 hv
  go_enter Tryd.func21, Tryd.ntmps21
  go_wp2_with fail
  refine (C1.out _).mono ?_
  rintro e w1 ⟨rfl, hb1⟩
  have z1 := hide ((zo_new w).behind hb1)
  have r1 := hide ((hr.out.alloc _).below hb1 (Nat.le_refl _))
  clear hb1
  go_wp2_with fail
  refine (C2.out _ r1.out).mono ?_
  rintro e w2 ⟨rfl, rfl⟩
  go_wp2_with (refine wl_put (.tmp 6) (.tmp 53) rfl rfl z1.out rfl v n true (bs name) (bs to) ⟨#[]⟩ rfl ?_)
  refine bodyPost_ret (resO rfl rfl rfl (z1.out.done _).1 rfl) rfl ⟨ret_any ?_, (z1.out.done _).2⟩
  rw [HV.out]; rfl

set_option maxHeartbeats 2000000 in
set_option maxRecDepth 100000 in
theorem deed_all9_none (v : Nat) (s : ByteArray) (rest : List (List UInt8)) (u : Value) (w : World) (hs : s.size ≤ 140737488355328) (hr : Rd w u rest) (n : Nat) (name : List UInt8) (hn : nounL s.data.toList = some (n, name, true)) (hv : v = 9) (h2 : secondL v rest = none) :
    Calls Tryd.prog 21 #[.int .i64 (v : Int), .string s, u] w fun e w' => e = .returned (ordA (deedL v s.data.toList rest)) ∧ Below w.heap.size w w' := by
  have HV := hide (show deedL v s.data.toList rest = none by simp [deedL, hn, h2])
  have C1 := hide (fun w' => noun_b s w' hs)
  have C2 := hide (fun w' h => second_any v rest u w' h)
  rw [hn] at C1
  simp only [nounA] at C1
  simp only [secA, h2] at C2
  have b7 : ((v : Int) != 7) = true := by subst hv; rfl
  have b8 : ((v : Int) != 8) = true := by subst hv; rfl
  have b9 : ((v : Int) != 9) = false := by subst hv; rfl
  replace hr := hide hr
  clear hn h2 hv
  go_enter Tryd.func21, Tryd.ntmps21
  go_wp2_with fail
  refine (C1.out _).mono ?_
  rintro e w1 ⟨rfl, hb1⟩
  have z1 := hide ((zo_new w).behind hb1)
  have r1 := hide ((hr.out.alloc _).below hb1 (Nat.le_refl _))
  clear hb1
  go_wp2_with fail
  refine (C2.out _ r1.out).mono ?_
  rintro e w2 ⟨rfl, rfl⟩
  go_wp2_with (refine wl_put (.tmp 6) (.tmp 47) rfl rfl z1.out rfl 0 0 false ⟨#[]⟩ ⟨#[]⟩ ⟨#[]⟩ rfl ?_)
  refine bodyPost_ret (resO rfl rfl rfl (z1.out.done _).1 rfl) rfl ⟨ret_any ?_, (z1.out.done _).2⟩
  rw [HV.out]; rfl

set_option maxHeartbeats 2000000 in
set_option maxRecDepth 100000 in
theorem deed_all9_some (v : Nat) (s : ByteArray) (rest : List (List UInt8)) (u : Value) (w : World) (hs : s.size ≤ 140737488355328) (hr : Rd w u rest) (n : Nat) (name : List UInt8) (hn : nounL s.data.toList = some (n, name, true)) (hv : v = 9) (to : List UInt8) (h2 : secondL v rest = some to) :
    Calls Tryd.prog 21 #[.int .i64 (v : Int), .string s, u] w fun e w' => e = .returned (ordA (deedL v s.data.toList rest)) ∧ Below w.heap.size w w' := by
  have HV := hide (show deedL v s.data.toList rest = some { verb := v, nth := n, all := true, name := name, second := to, text := [] } by simp [deedL, hn, h2]; omega)
  have C1 := hide (fun w' => noun_b s w' hs)
  have C2 := hide (fun w' h => second_any v rest u w' h)
  rw [hn] at C1
  simp only [nounA] at C1
  simp only [secA, h2] at C2
  have b7 : ((v : Int) != 7) = true := by subst hv; rfl
  have b8 : ((v : Int) != 8) = true := by subst hv; rfl
  have b9 : ((v : Int) != 9) = false := by subst hv; rfl
  replace hr := hide hr
  clear hn h2 hv
  go_enter Tryd.func21, Tryd.ntmps21
  go_wp2_with fail
  refine (C1.out _).mono ?_
  rintro e w1 ⟨rfl, hb1⟩
  have z1 := hide ((zo_new w).behind hb1)
  have r1 := hide ((hr.out.alloc _).below hb1 (Nat.le_refl _))
  clear hb1
  go_wp2_with fail
  refine (C2.out _ r1.out).mono ?_
  rintro e w2 ⟨rfl, rfl⟩
  go_wp2_with (refine wl_put (.tmp 6) (.tmp 53) rfl rfl z1.out rfl v n true (bs name) (bs to) ⟨#[]⟩ rfl ?_)
  refine bodyPost_ret (resO rfl rfl rfl (z1.out.done _).1 rfl) rfl ⟨ret_any ?_, (z1.out.done _).2⟩
  rw [HV.out]; rfl

theorem deed_any (v : Nat) (s : ByteArray) (rest : List (List UInt8)) (u : Value) (w : World) (hs : s.size ≤ 140737488355328) (hr : Rd w u rest) :
    Calls Tryd.prog 21 #[.int .i64 (v : Int), .string s, u] w fun e w' => e = .returned (ordA (deedL v s.data.toList rest)) ∧ Below w.heap.size w w' := by
  cases hn : nounL s.data.toList with
  | none => exact deed_none v s rest u w hs hr hn
  | some t =>
    obtain ⟨n, name, every⟩ := t
    cases every
    · cases h2 : secondL v rest with
      | none => exact deed_one_none v s rest u w hs hr n name hn h2
      | some to => exact deed_one_some v s rest u w hs hr n name hn to h2
    · by_cases h7 : v = 7
      · cases h2 : secondL v rest with
        | none => exact deed_all7_none v s rest u w hs hr n name hn h7 h2
        | some to => exact deed_all7_some v s rest u w hs hr n name hn h7 to h2
      by_cases h8 : v = 8
      · cases h2 : secondL v rest with
        | none => exact deed_all8_none v s rest u w hs hr n name hn h8 h2
        | some to => exact deed_all8_some v s rest u w hs hr n name hn h8 to h2
      by_cases h9 : v = 9
      · cases h2 : secondL v rest with
        | none => exact deed_all9_none v s rest u w hs hr n name hn h9 h2
        | some to => exact deed_all9_some v s rest u w hs hr n name hn h9 to h2
      · exact deed_wrong v s rest u w hs hr n name hn h7 h8 h9
end Go.Proofs.YtfbgaimjjfmfaacDoor
