/-
  The contracts of what the program calls of package strings, at one byte.
-/
import Derived.Test.YtaifjndkgfffpaaGreatDoorMgB
import Derived.Handy
namespace Go.Proofs.YtaifjndkgfffpaaGreatDoor
open Go.RowKit
set_option linter.unusedVariables false
set_option maxHeartbeats 1000000 in
set_option maxRecDepth 100000 in
theorem ibyte_any (s : ByteArray) (c : Int) (w : World) :
    Calls Tryz.prog 109 #[.string s, .int .u8 c] w fun e w' => e = .returned (.int .i64 (Lib.indexByte s.data.toList c.toNat.toUInt8)) ∧ w' = w := by
  go_enter Tryz.func109, Tryz.ntmps109
  go_wp2
  rw [run_callFunc_extern Tryz.func113 (by kernel_rfl) (by kernel_rfl) (by kernel_rfl) (e := Extern.BytealgIndexByte.indexByte) (by kernel_rfl), Lib.run_indexByteString]
  simp only [Result.andThen]
  rw [Oper.upon_value]
  go_wp2
  go_ret
  exact ⟨rfl, rfl⟩

set_option maxHeartbeats 2000000 in
set_option maxRecDepth 100000 in
theorem slindex_one (s : ByteArray) (c : UInt8) (w : World) :
    Calls Tryz.prog 107 #[.string s, .string ⟨#[c]⟩] w fun e w' => e = .returned (.int .i64 (Lib.indexByte s.data.toList c)) ∧ w' = w := by
  go_enter Tryz.func107, Tryz.ntmps107
  go_wp2_with (go_at_call 109; refine (ibyte_any _ _ _).mono ?_; rintro e w' ⟨rfl, rfl⟩)
  · have h : ([c] == s.toList) = true := by assumption
    go_ret
    refine ⟨?_, rfl⟩
    have e : s.data.toList = [c] := by rw [← Lib.toList_data]; exact (beq_iff_eq.1 h).symm
    rw [e]
    simp [Lib.indexByte]
  · go_ret
    exact ⟨rfl, rfl⟩

theorem index_one (s : ByteArray) (c : UInt8) (w : World) :
    Calls Tryz.prog 102 #[.string s, .string ⟨#[c]⟩] w fun e w' => e = .returned (.int .i64 (Lib.indexByte s.data.toList c)) ∧ w' = w := by
  go_enter Tryz.func102, Tryz.ntmps102
  go_wp2_with (go_at_call 107; refine (slindex_one _ _ _).mono ?_; rintro e w' ⟨rfl, rfl⟩)
  go_ret
  exact ⟨rfl, rfl⟩

theorem idx_mem (c : UInt8) : ∀ l : List UInt8, decide (0 ≤ Lib.indexByte l c) = decide (c ∈ l)
  | [] => by simp [Lib.indexByte]
  | x :: r => by
    have ih := idx_mem c r
    have hge := Lib.indexByte_ge r c
    unfold Lib.indexByte
    by_cases hx : x = c
    · simp [hx]
    · rw [if_neg (by simpa using hx)]
      have hx' : ¬ c = x := fun e => hx e.symm
      by_cases h1 : Lib.indexByte r c = -1
      · rw [if_pos (by simp [h1])]
        rw [h1] at ih
        simp at ih
        simp [hx', ih]
      · rw [if_neg (by simpa using h1)]
        have h0 : 0 ≤ Lib.indexByte r c := by omega
        simp [h0] at ih
        simp [hx', ih]; omega

theorem contains_one (s : ByteArray) (c : UInt8) (w : World) :
    Calls Tryz.prog 96 #[.string s, .string ⟨#[c]⟩] w fun e w' => e = .returned (.bool (decide (c ∈ s.data.toList))) ∧ w' = w := by
  have HV := hide (idx_mem c s.data.toList)
  go_enter Tryz.func96, Tryz.ntmps96
  go_wp2_with (go_at_call 102; refine (index_one _ _ _).mono ?_; rintro e w' ⟨rfl, rfl⟩)
  go_ret
  exact ⟨ret_bool HV.out, rfl⟩

theorem extract_from (s : ByteArray) (k : Nat) : s.extract k s.size = bs (s.data.toList.drop k) := by
  rw [Lib.extract_eq, Lib.size_eq, List.take_of_length_le (by simp)]; rfl
theorem extract_upto (s : ByteArray) (k : Nat) : s.extract 0 k = bs (s.data.toList.take k) := by
  rw [Lib.extract_eq]; simp [bs]

set_option maxHeartbeats 1000000 in
set_option maxRecDepth 100000 in
theorem slcut_one (s : ByteArray) (c : UInt8) (w : World) (hs : s.size ≤ 140737488355328) :
    Calls Tryz.prog 103 #[.string s, .string ⟨#[c]⟩] w fun e w' => e = .returned (.tuple #[.string (bs (cutL c s.data.toList).1), .string (bs (cutL c s.data.toList).2.1), .bool (cutL c s.data.toList).2.2]) ∧ ∃ n, w' = w.drewN n := by
  have hge := Lib.indexByte_ge s.data.toList c
  by_cases h : Lib.indexByte s.data.toList c = -1
  · have HV := hide (cut_miss c _ h)
    have HI := hide h
    clear hge h
    go_enter Tryz.func103, Tryz.ntmps103
    go_wp2_with fail
    refine (slindex_one _ _ _).mono ?_
    rintro e w' ⟨rfl, rfl⟩
    rw [HI.out]
    go_wp2
    go_ret3
    refine ⟨?_, 0, rfl⟩
    rw [HV.out, bs_of]; rfl
  · obtain ⟨i, hi⟩ : ∃ i : Nat, Lib.indexByte s.data.toList c = (i : Int) := ⟨(Lib.indexByte s.data.toList c).toNat, by omega⟩
    have hb := cut_bound c _ i hi
    rw [size_len] at hb
    have HV := hide (cut_hit c _ i hi)
    have HI := hide hi
    have e1 := extract_upto s i
    have e2 := extract_from s (i + 1)
    replace e1 := hide e1
    replace e2 := hide e2
    clear hge h hi
    go_enter Tryz.func103, Tryz.ntmps103
    go_wp2_with fail
    refine (slindex_one _ _ _).mono ?_
    rintro e w' ⟨rfl, rfl⟩
    rw [HI.out]
    go_wp2
    go_region
    all_goals go_wp2
    all_goals go_ret3
    all_goals refine ⟨?_, _, rfl⟩
    all_goals rw [HV.out]
    all_goals simp only [← e1.out, ← e2.out]
    all_goals rfl

set_option maxHeartbeats 1000000 in
theorem cut_one (s : ByteArray) (c : UInt8) (w : World) (hs : s.size ≤ 140737488355328) :
    Calls Tryz.prog 95 #[.string s, .string ⟨#[c]⟩] w fun e w' => e = .returned (.tuple #[.string (bs (cutL c s.data.toList).1), .string (bs (cutL c s.data.toList).2.1), .bool (cutL c s.data.toList).2.2]) ∧ ∃ n, w' = w.drewN n := by
  go_enter Tryz.func95, Tryz.ntmps95
  go_wp2_with (go_at_call 103; refine (slcut_one s c _ hs).mono ?_; rintro e w' ⟨rfl, n, rfl⟩)
  go_ret3
  exact ⟨rfl, n, rfl⟩
/-
  The contract of number.
-/
/-- What number answers. -/
def numA (l : List UInt8) : Int × Bool := match numL l with | some n => ((n : Int), true) | none => (0, false)

theorem ret_num {n m : Int} {a b : Bool} (h : (n, a) = (m, b)) : Ending.returned (.tuple #[.int .i64 n, .bool a]) = .returned (.tuple #[.int .i64 m, .bool b]) := by
  simp at h; rw [h.1, h.2]

theorem numA_one (a : UInt8) : numA [a] = if 49 ≤ a.toNat ∧ a.toNat ≤ 57 then ((a.toNat : Int) - 48, true) else (0, false) := by
  unfold numA numL
  by_cases h : 49 ≤ a.toNat ∧ a.toNat ≤ 57
  · simp [h]; omega
  · simp [h]
theorem numA_two (a b : UInt8) : numA [a, b] = if 49 ≤ a.toNat ∧ a.toNat ≤ 57 ∧ 48 ≤ b.toNat ∧ b.toNat ≤ 57 then (((a.toNat : Int) - 48) * 10 + ((b.toNat : Int) - 48), true) else (0, false) := by
  unfold numA numL
  by_cases h : 49 ≤ a.toNat ∧ a.toNat ≤ 57 ∧ 48 ≤ b.toNat ∧ b.toNat ≤ 57
  · simp [h]; omega
  · simp [h]
theorem numA_long {l : List UInt8} (h : 2 < l.length) : numA l = (0, false) := by
  match l, h with
  | a :: b :: c :: r, _ => rfl

set_option maxHeartbeats 4000000 in
set_option maxRecDepth 100000 in
theorem number_any (s : ByteArray) (w : World) (hs : s.size ≤ 140737488355328) :
    Calls Tryz.prog 97 #[.string s] w fun e w' => e = .returned (.tuple #[.int .i64 (numA s.data.toList).1, .bool (numA s.data.toList).2]) ∧ w' = w := by
  by_cases h2 : 2 < s.size
  · have HV := hide (numA_long (l := s.data.toList) (by rw [size_len]; exact h2))
    have h0 : s.toList.isEmpty = false := by
      rw [Lib.toList_data]
      cases h : s.data.toList with
      | nil => have := size_len s; rw [h] at this; simp at this; omega
      | cons x r => rfl
    go_enter Tryz.func97, Tryz.ntmps97
    go_wp2
    go_ret2
    exact ⟨ret_num HV.out.symm, rfl⟩
  · obtain ⟨l, rfl⟩ : ∃ l : List UInt8, s = bs l := ⟨s.data.toList, (bs_of s).symm⟩
    rw [bs_size] at h2
    rw [bs_data]
    match l, h2 with
    | [], _ =>
      unfold bs
      go_enter Tryz.func97, Tryz.ntmps97
      go_wp2
      go_ret2
      exact ⟨rfl, rfl⟩
    | [a], _ =>
      have HV := hide (numA_one a)
      have ha := a.toNat_lt
      obtain ⟨x, hx⟩ : ∃ x : Nat, x = a.toNat := ⟨_, rfl⟩
      rw [← hx] at ha HV
      have hg : ∀ h, ((⟨#[a]⟩ : ByteArray)[0]'h).toNat = x := fun _ => hx.symm
      have hz : (⟨#[a]⟩ : ByteArray).size = 1 := rfl
      have hl : (⟨#[a]⟩ : ByteArray).toList.isEmpty = false := by rw [Lib.toList_data]; rfl
      show Calls Tryz.prog 97 #[.string ⟨#[a]⟩] w _
      generalize (⟨#[a]⟩ : ByteArray) = t at hg hz hl
      clear hx
      by_cases h48 : x = 48
      · subst h48
        go_enter Tryz.func97, Tryz.ntmps97
        go_wp2
        go_ret2
        exact ⟨ret_num (by rw [HV.out]; rfl), rfl⟩
      · have hb48 : ((x : Int) == 48) = false := by simp; omega
        go_enter Tryz.func97, Tryz.ntmps97
        go_wp2
        go_rounds 2
        all_goals go_ret2
        all_goals refine ⟨ret_num ?_, rfl⟩
        all_goals rw [HV.out]
        all_goals first | (rw [if_pos (by omega)]; done) | (rw [if_pos (by omega)]; simp; done) | (rw [if_neg (by omega)]; done) | (rw [if_pos (by omega)]; simp; omega)
    | [a, b], _ =>
      have HV := hide (numA_two a b)
      have ha := a.toNat_lt
      have hb := b.toNat_lt
      obtain ⟨x, hx⟩ : ∃ x : Nat, x = a.toNat := ⟨_, rfl⟩
      obtain ⟨y, hy⟩ : ∃ y : Nat, y = b.toNat := ⟨_, rfl⟩
      rw [← hx] at ha HV
      rw [← hy] at hb HV
      have hg : ∀ h, ((⟨#[a, b]⟩ : ByteArray)[0]'h).toNat = x := fun _ => hx.symm
      have hg1 : ∀ h, ((⟨#[a, b]⟩ : ByteArray)[1]'h).toNat = y := fun _ => hy.symm
      have hz : (⟨#[a, b]⟩ : ByteArray).size = 2 := rfl
      have hl : (⟨#[a, b]⟩ : ByteArray).toList.isEmpty = false := by rw [Lib.toList_data]; rfl
      show Calls Tryz.prog 97 #[.string ⟨#[a, b]⟩] w _
      generalize (⟨#[a, b]⟩ : ByteArray) = t at hg hg1 hz hl
      clear hx hy
      by_cases h48 : x = 48
      · subst h48
        go_enter Tryz.func97, Tryz.ntmps97
        go_wp2
        go_ret2
        exact ⟨ret_num (by rw [HV.out]; rfl), rfl⟩
      · have hb48 : ((x : Int) == 48) = false := by simp; omega
        go_enter Tryz.func97, Tryz.ntmps97
        go_wp2
        go_rounds 3
        all_goals go_ret2
        all_goals refine ⟨ret_num ?_, rfl⟩
        all_goals rw [HV.out]
        all_goals first | (rw [if_pos (by omega)]; done) | (rw [if_pos (by omega)]; simp; done) | (rw [if_neg (by omega)]; done) | (rw [if_pos (by omega)]; simp; omega)
    | a :: b :: c :: r, h2 => exact absurd (by simp) h2
/-
  The contract of Noun.
-/
theorem bsl (l : List UInt8) : (bs l).toList = l := by rw [Lib.toList_data, bs_data]

theorem isEmpty_nil' {s : ByteArray} (h : s.toList.isEmpty = true) : s.data.toList = [] := by
  rw [Lib.toList_data] at h; exact List.isEmpty_iff.1 h

/-- What Noun answers. -/
def nounA (o : Option (Nat × List UInt8 × Bool)) : Value := match o with
  | some (n, name, every) => .tuple #[.int .i64 (n : Int), .string (bs name), .bool every, .int .i64 0]
  | none => .tuple #[.int .i64 0, .string (bs []), .bool false, .int .i64 1]

theorem res4 {fn : Func} {a b c d : Tmp} (hf : fn.results = #[.tmp a, .tmp b, .tmp c, .tmp d]) {tmps : Array Value} {w : World} {x y z u : Value}
    (h1 : tmps.getD a undef = x) (h2 : tmps.getD b undef = y) (h3 : tmps.getD c undef = z) (h4 : tmps.getD d undef = u) :
    (results fn tmps).run Tryz.prog w = .ok (.tuple #[x, y, z, u]) w := by
  simp only [Array.getD_eq_getD_getElem?] at h1 h2 h3 h4
  simp only [results, hf]
  simp [h1, h2, h3, h4]

theorem numA_some {l : List UInt8} {n : Nat} (h : numL l = some n) : numA l = ((n : Int), true) := by simp [numA, h]
theorem numA_none {l : List UInt8} (h : numL l = none) : numA l = (0, false) := by simp [numA, h]

set_option maxHeartbeats 4000000 in
set_option maxRecDepth 100000 in
theorem noun_plain (s : ByteArray) (w : World) (hs : s.size ≤ 140737488355328) (ha : (s.toList == [97, 108, 108]) = false) (hd : (cutL 46 s.data.toList).2.2 = false) :
    Calls Tryz.prog 87 #[.string s] w fun e w' => e = .returned (nounA (nounL s.data.toList)) ∧ ∃ n, w' = w.drewN n := by
  have hna : ¬ s.data.toList = allW := by
    intro e; rw [Lib.toList_data, e] at ha; simp [allW] at ha
  have C1 := hide (fun w' => cut_one s 46 w' hs)
  have HN := hide (show nounL s.data.toList = nounT [49] s.data.toList by simp [nounL, hna, hd])
  rw [hd] at C1
  generalize (cutL 46 s.data.toList).1 = A at C1
  generalize (cutL 46 s.data.toList).2.1 = B at C1
  clear hd
  have C2 := hide (fun w' => contains_one s 46 w')
  have C3 := hide (fun w' => number_any ⟨#[49]⟩ w' (by decide))
  cases he : s.toList.isEmpty
  · have hne : ¬ s.data.toList = [] := by intro e; rw [Lib.toList_data, e] at he; simp at he
    cases hm : decide (46 ∈ s.data.toList)
    · have hm' : ¬ 46 ∈ s.data.toList := by simpa using hm
      have HT := hide (show nounT [49] s.data.toList = some (1, s.data.toList, false) by simp [nounT, hne, hm', allW, numL])
      rw [hm] at C2
      clear hm hm' hne hna
      go_enter Tryz.func87, Tryz.ntmps87
      go_wp2_with (first | (go_at_call 95; refine (C1.out _).mono ?_; rintro e w' ⟨rfl, n, rfl⟩) | (go_at_call 96; refine (C2.out _).mono ?_; rintro e w' ⟨rfl, rfl⟩) | (go_at_call 97; refine (C3.out _).mono ?_; rintro e w' ⟨rfl, rfl⟩))
      refine bodyPost_ret (res4 rfl rfl rfl rfl rfl) rfl ?_
      exact ⟨ret_any (by rw [HN.out, HT.out]; show _ = Value.tuple _; rw [bs_of]; rfl), n, rfl⟩
    · have hm' : 46 ∈ s.data.toList := by simpa using hm
      have HT := hide (show nounT [49] s.data.toList = none by simp [nounT, hm'])
      rw [hm] at C2
      clear hm hm' hne hna
      go_enter Tryz.func87, Tryz.ntmps87
      go_wp2_with (first | (go_at_call 95; refine (C1.out _).mono ?_; rintro e w' ⟨rfl, n, rfl⟩) | (go_at_call 96; refine (C2.out _).mono ?_; rintro e w' ⟨rfl, rfl⟩) | (go_at_call 97; refine (C3.out _).mono ?_; rintro e w' ⟨rfl, rfl⟩))
      refine bodyPost_ret (res4 rfl rfl rfl rfl rfl) rfl ?_
      exact ⟨ret_any (by rw [HN.out, HT.out]; rfl), n, rfl⟩
  · have hne : s.data.toList = [] := isEmpty_nil' he
    have HT := hide (show nounT [49] s.data.toList = none by simp [nounT, hne])
    clear hne hna
    go_enter Tryz.func87, Tryz.ntmps87
    go_wp2_with (first | (go_at_call 95; refine (C1.out _).mono ?_; rintro e w' ⟨rfl, n, rfl⟩) | (go_at_call 96; refine (C2.out _).mono ?_; rintro e w' ⟨rfl, rfl⟩) | (go_at_call 97; refine (C3.out _).mono ?_; rintro e w' ⟨rfl, rfl⟩))
    refine bodyPost_ret (res4 rfl rfl rfl rfl rfl) rfl ?_
    exact ⟨ret_any (by rw [HN.out, HT.out]; rfl), n, rfl⟩

set_option maxHeartbeats 4000000 in
set_option maxRecDepth 100000 in
theorem noun_dotted (s : ByteArray) (w : World) (hs : s.size ≤ 140737488355328) (ha : (s.toList == [97, 108, 108]) = false) (hd : (cutL 46 s.data.toList).2.2 = true) :
    Calls Tryz.prog 87 #[.string s] w fun e w' => e = .returned (nounA (nounL s.data.toList)) ∧ ∃ n, w' = w.drewN n := by
  have hna : ¬ s.data.toList = allW := by
    intro e; rw [Lib.toList_data, e] at ha; simp [allW] at ha
  have C1 := hide (fun w' => cut_one s 46 w' hs)
  have hcl := cut_len 46 s.data.toList
  rw [size_len] at hcl
  have HN := hide (show nounL s.data.toList = nounT (cutL 46 s.data.toList).1 (cutL 46 s.data.toList).2.1 by simp [nounL, hna, hd])
  rw [hd] at C1
  generalize (cutL 46 s.data.toList).1 = A at C1 HN hcl
  generalize (cutL 46 s.data.toList).2.1 = B at C1 HN hcl
  clear hd hna
  have hsA : (bs A).size ≤ 140737488355328 := by rw [bs_size]; omega
  have C2 := hide (fun w' => contains_one (bs B) 46 w')
  have C3 := hide (fun w' => number_any (bs A) w' hsA)
  rw [bs_data] at C2 C3
  have hbt := bsl
  clear hcl hsA
  cases he : B.isEmpty
  · have hne : ¬ B = [] := by intro e; rw [e] at he; simp at he
    cases hm : decide (46 ∈ B)
    · have hm' : ¬ 46 ∈ B := by simpa using hm
      rw [hm] at C2
      cases hA : (A == [97, 108, 108])
      · have hA' : ¬ A = allW := by intro e; rw [e] at hA; simp [allW] at hA
        cases hn : numL A with
        | none =>
          have HT := hide (show nounT A B = none by simp [nounT, hne, hm', hA', hn])
          rw [numA_none hn] at C3
          clear hm hm' hne hA' hn
          go_enter Tryz.func87, Tryz.ntmps87
          go_wp2_with (first | (go_at_call 95; refine (C1.out _).mono ?_; rintro e w' ⟨rfl, n, rfl⟩) | (go_at_call 96; refine (C2.out _).mono ?_; rintro e w' ⟨rfl, rfl⟩) | (go_at_call 97; refine (C3.out _).mono ?_; rintro e w' ⟨rfl, rfl⟩))
          refine bodyPost_ret (res4 rfl rfl rfl rfl rfl) rfl ?_
          exact ⟨ret_any (by rw [HN.out, HT.out]; rfl), n, rfl⟩
        | some k =>
          have HT := hide (show nounT A B = some (k, B, false) by simp [nounT, hne, hm', hA', hn])
          rw [numA_some hn] at C3
          clear hm hm' hne hA' hn
          go_enter Tryz.func87, Tryz.ntmps87
          go_wp2_with (first | (go_at_call 95; refine (C1.out _).mono ?_; rintro e w' ⟨rfl, n, rfl⟩) | (go_at_call 96; refine (C2.out _).mono ?_; rintro e w' ⟨rfl, rfl⟩) | (go_at_call 97; refine (C3.out _).mono ?_; rintro e w' ⟨rfl, rfl⟩))
          refine bodyPost_ret (res4 rfl rfl rfl rfl rfl) rfl ?_
          exact ⟨ret_any (by rw [HN.out, HT.out]; rfl), n, rfl⟩
      · have hA' : A = allW := by simpa [allW] using hA
        have HT := hide (show nounT A B = some (1, B, true) by simp [nounT, hne, hm', hA'])
        clear hm hm' hne hA'
        go_enter Tryz.func87, Tryz.ntmps87
        go_wp2_with (first | (go_at_call 95; refine (C1.out _).mono ?_; rintro e w' ⟨rfl, n, rfl⟩) | (go_at_call 96; refine (C2.out _).mono ?_; rintro e w' ⟨rfl, rfl⟩) | (go_at_call 97; refine (C3.out _).mono ?_; rintro e w' ⟨rfl, rfl⟩))
        refine bodyPost_ret (res4 rfl rfl rfl rfl rfl) rfl ?_
        exact ⟨ret_any (by rw [HN.out, HT.out]; rfl), n, rfl⟩
    · have hm' : 46 ∈ B := by simpa using hm
      have HT := hide (show nounT A B = none by simp [nounT, hm'])
      rw [hm] at C2
      clear hm hm' hne
      go_enter Tryz.func87, Tryz.ntmps87
      go_wp2_with (first | (go_at_call 95; refine (C1.out _).mono ?_; rintro e w' ⟨rfl, n, rfl⟩) | (go_at_call 96; refine (C2.out _).mono ?_; rintro e w' ⟨rfl, rfl⟩) | (go_at_call 97; refine (C3.out _).mono ?_; rintro e w' ⟨rfl, rfl⟩))
      refine bodyPost_ret (res4 rfl rfl rfl rfl rfl) rfl ?_
      exact ⟨ret_any (by rw [HN.out, HT.out]; rfl), n, rfl⟩
  · have hne : B = [] := List.isEmpty_iff.1 he
    have HT := hide (show nounT A B = none by simp [nounT, hne])
    clear hne
    go_enter Tryz.func87, Tryz.ntmps87
    go_wp2_with (first | (go_at_call 95; refine (C1.out _).mono ?_; rintro e w' ⟨rfl, n, rfl⟩) | (go_at_call 96; refine (C2.out _).mono ?_; rintro e w' ⟨rfl, rfl⟩) | (go_at_call 97; refine (C3.out _).mono ?_; rintro e w' ⟨rfl, rfl⟩))
    refine bodyPost_ret (res4 rfl rfl rfl rfl rfl) rfl ?_
    exact ⟨ret_any (by rw [HN.out, HT.out]; rfl), n, rfl⟩

set_option maxHeartbeats 1000000 in
theorem noun_any (s : ByteArray) (w : World) (hs : s.size ≤ 140737488355328) :
    Calls Tryz.prog 87 #[.string s] w fun e w' => e = .returned (nounA (nounL s.data.toList)) ∧ ∃ n, w' = w.drewN n := by
  cases ha : (s.toList == [97, 108, 108])
  · cases hd : (cutL 46 s.data.toList).2.2
    · exact noun_plain s w hs ha hd
    · exact noun_dotted s w hs ha hd
  · have HT := hide (show nounL s.data.toList = some (1, [], true) by
      have : s.data.toList = allW := by rw [Lib.toList_data] at ha; simpa [allW] using ha
      simp [nounL, this])
    go_enter Tryz.func87, Tryz.ntmps87
    go_wp2
    refine bodyPost_ret (res4 rfl rfl rfl rfl rfl) rfl ?_
    exact ⟨ret_any (by rw [HT.out]; rfl), 0, rfl⟩
end Go.Proofs.YtaifjndkgfffpaaGreatDoor
