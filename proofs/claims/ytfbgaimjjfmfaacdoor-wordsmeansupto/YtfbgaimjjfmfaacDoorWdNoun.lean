/-
  The contract of Noun.
-/
import Derived.Test.YtfbgaimjjfmfaacDoorWdNum
namespace Go.Proofs.YtfbgaimjjfmfaacDoor
open Go.RowKit
set_option linter.unusedVariables false

theorem bsl (l : List UInt8) : (bs l).toList = l := by rw [Lib.toList_data, bs_data]

theorem isEmpty_nil' {s : ByteArray} (h : s.toList.isEmpty = true) : s.data.toList = [] := by
  rw [Lib.toList_data] at h; exact List.isEmpty_iff.1 h

/-- What Noun answers. -/
def nounA (o : Option (Nat × List UInt8 × Bool)) : Value := match o with
  | some (n, name, every) => .tuple #[.int .i64 (n : Int), .string (bs name), .bool every, .int .i64 0]
  | none => .tuple #[.int .i64 0, .string (bs []), .bool false, .int .i64 1]

theorem res4 {fn : Func} {a b c d : Tmp} (hf : fn.results = #[.tmp a, .tmp b, .tmp c, .tmp d]) {tmps : Array Value} {w : World} {x y z u : Value}
    (h1 : tmps.getD a undef = x) (h2 : tmps.getD b undef = y) (h3 : tmps.getD c undef = z) (h4 : tmps.getD d undef = u) :
    (results fn tmps).run Tryd.prog w = .ok (.tuple #[x, y, z, u]) w := by
  simp only [Array.getD_eq_getD_getElem?] at h1 h2 h3 h4
  simp only [results, hf]
  simp [h1, h2, h3, h4]

theorem ret_any {a b : Value} (h : a = b) : Ending.returned a = .returned b := by rw [h]

theorem numA_some {l : List UInt8} {n : Nat} (h : numL l = some n) : numA l = ((n : Int), true) := by simp [numA, h]
theorem numA_none {l : List UInt8} (h : numL l = none) : numA l = (0, false) := by simp [numA, h]

set_option maxHeartbeats 4000000 in
set_option maxRecDepth 100000 in
theorem noun_plain (s : ByteArray) (w : World) (hs : s.size ≤ 140737488355328) (ha : (s.toList == [97, 108, 108]) = false) (hd : (cutL 46 s.data.toList).2.2 = false) :
    Calls Tryd.prog 13 #[.string s] w fun e w' => e = .returned (nounA (nounL s.data.toList)) ∧ ∃ n, w' = w.drewN n := by
  have hna : ¬ s.data.toList = allW := by
    intro e; rw [Lib.toList_data, e] at ha; simp [allW] at ha
  have C1 := hide (fun w' => cut_one s 46 w' hs)
  have HN := hide (show nounL s.data.toList = nounT [49] s.data.toList by simp [nounL, hna, hd])
  rw [hd] at C1
  generalize (cutL 46 s.data.toList).1 = A at C1
  generalize (cutL 46 s.data.toList).2.1 = B at C1
  clear hd
  have C2 := hide (fun w' => contains_one s 46 w')
  have C3 := hide (fun w' => number_any ⟨#[49]⟩ w' (by decide))
  cases he : s.toList.isEmpty
  · have hne : ¬ s.data.toList = [] := by intro e; rw [Lib.toList_data, e] at he; simp at he
    cases hm : decide (46 ∈ s.data.toList)
    · have hm' : ¬ 46 ∈ s.data.toList := by simpa using hm
      have HT := hide (show nounT [49] s.data.toList = some (1, s.data.toList, false) by simp [nounT, hne, hm', allW, numL])
      rw [hm] at C2
      clear hm hm' hne hna
      go_enter Tryd.func13, Tryd.ntmps13
      go_wp2_with (first | (go_at_call 22; refine (C1.out _).mono ?_; rintro e w' ⟨rfl, n, rfl⟩) | (go_at_call 26; refine (C2.out _).mono ?_; rintro e w' ⟨rfl, rfl⟩) | (go_at_call 27; refine (C3.out _).mono ?_; rintro e w' ⟨rfl, rfl⟩))
      refine bodyPost_ret (res4 rfl rfl rfl rfl rfl) rfl ?_
      exact ⟨ret_any (by rw [HN.out, HT.out]; show _ = Value.tuple _; rw [bs_of]; rfl), n, rfl⟩
    · have hm' : 46 ∈ s.data.toList := by simpa using hm
      have HT := hide (show nounT [49] s.data.toList = none by simp [nounT, hm'])
      rw [hm] at C2
      clear hm hm' hne hna
      go_enter Tryd.func13, Tryd.ntmps13
      go_wp2_with (first | (go_at_call 22; refine (C1.out _).mono ?_; rintro e w' ⟨rfl, n, rfl⟩) | (go_at_call 26; refine (C2.out _).mono ?_; rintro e w' ⟨rfl, rfl⟩) | (go_at_call 27; refine (C3.out _).mono ?_; rintro e w' ⟨rfl, rfl⟩))
      refine bodyPost_ret (res4 rfl rfl rfl rfl rfl) rfl ?_
      exact ⟨ret_any (by rw [HN.out, HT.out]; rfl), n, rfl⟩
  · have hne : s.data.toList = [] := isEmpty_nil' he
    have HT := hide (show nounT [49] s.data.toList = none by simp [nounT, hne])
    clear hne hna
    go_enter Tryd.func13, Tryd.ntmps13
    go_wp2_with (first | (go_at_call 22; refine (C1.out _).mono ?_; rintro e w' ⟨rfl, n, rfl⟩) | (go_at_call 26; refine (C2.out _).mono ?_; rintro e w' ⟨rfl, rfl⟩) | (go_at_call 27; refine (C3.out _).mono ?_; rintro e w' ⟨rfl, rfl⟩))
    refine bodyPost_ret (res4 rfl rfl rfl rfl rfl) rfl ?_
    exact ⟨ret_any (by rw [HN.out, HT.out]; rfl), n, rfl⟩

set_option maxHeartbeats 4000000 in
set_option maxRecDepth 100000 in
theorem noun_dotted (s : ByteArray) (w : World) (hs : s.size ≤ 140737488355328) (ha : (s.toList == [97, 108, 108]) = false) (hd : (cutL 46 s.data.toList).2.2 = true) :
    Calls Tryd.prog 13 #[.string s] w fun e w' => e = .returned (nounA (nounL s.data.toList)) ∧ ∃ n, w' = w.drewN n := by
  have hna : ¬ s.data.toList = allW := by
    intro e; rw [Lib.toList_data, e] at ha; simp [allW] at ha
  have C1 := hide (fun w' => cut_one s 46 w' hs)
  have hcl := cut_len 46 s.data.toList
  rw [size_len] at hcl
  have HN := hide (show nounL s.data.toList = nounT (cutL 46 s.data.toList).1 (cutL 46 s.data.toList).2.1 by simp [nounL, hna, hd])
  rw [hd] at C1
  generalize (cutL 46 s.data.toList).1 = A at C1 HN hcl
  generalize (cutL 46 s.data.toList).2.1 = B at C1 HN hcl
  clear hd hna
  have hsA : (bs A).size ≤ 140737488355328 := by rw [bs_size]; omega
  have C2 := hide (fun w' => contains_one (bs B) 46 w')
  have C3 := hide (fun w' => number_any (bs A) w' hsA)
  rw [bs_data] at C2 C3
  have hbt := bsl
  clear hcl hsA
  cases he : B.isEmpty
  · have hne : ¬ B = [] := by intro e; rw [e] at he; simp at he
    cases hm : decide (46 ∈ B)
    · have hm' : ¬ 46 ∈ B := by simpa using hm
      rw [hm] at C2
      cases hA : (A == [97, 108, 108])
      · have hA' : ¬ A = allW := by intro e; rw [e] at hA; simp [allW] at hA
        cases hn : numL A with
        | none =>
          have HT := hide (show nounT A B = none by simp [nounT, hne, hm', hA', hn])
          rw [numA_none hn] at C3
          clear hm hm' hne hA' hn
          go_enter Tryd.func13, Tryd.ntmps13
          go_wp2_with (first | (go_at_call 22; refine (C1.out _).mono ?_; rintro e w' ⟨rfl, n, rfl⟩) | (go_at_call 26; refine (C2.out _).mono ?_; rintro e w' ⟨rfl, rfl⟩) | (go_at_call 27; refine (C3.out _).mono ?_; rintro e w' ⟨rfl, rfl⟩))
          refine bodyPost_ret (res4 rfl rfl rfl rfl rfl) rfl ?_
          exact ⟨ret_any (by rw [HN.out, HT.out]; rfl), n, rfl⟩
        | some k =>
          have HT := hide (show nounT A B = some (k, B, false) by simp [nounT, hne, hm', hA', hn])
          rw [numA_some hn] at C3
          clear hm hm' hne hA' hn
          go_enter Tryd.func13, Tryd.ntmps13
          go_wp2_with (first | (go_at_call 22; refine (C1.out _).mono ?_; rintro e w' ⟨rfl, n, rfl⟩) | (go_at_call 26; refine (C2.out _).mono ?_; rintro e w' ⟨rfl, rfl⟩) | (go_at_call 27; refine (C3.out _).mono ?_; rintro e w' ⟨rfl, rfl⟩))
          refine bodyPost_ret (res4 rfl rfl rfl rfl rfl) rfl ?_
          exact ⟨ret_any (by rw [HN.out, HT.out]; rfl), n, rfl⟩
      · have hA' : A = allW := by simpa [allW] using hA
        have HT := hide (show nounT A B = some (1, B, true) by simp [nounT, hne, hm', hA'])
        clear hm hm' hne hA'
        go_enter Tryd.func13, Tryd.ntmps13
        go_wp2_with (first | (go_at_call 22; refine (C1.out _).mono ?_; rintro e w' ⟨rfl, n, rfl⟩) | (go_at_call 26; refine (C2.out _).mono ?_; rintro e w' ⟨rfl, rfl⟩) | (go_at_call 27; refine (C3.out _).mono ?_; rintro e w' ⟨rfl, rfl⟩))
        refine bodyPost_ret (res4 rfl rfl rfl rfl rfl) rfl ?_
        exact ⟨ret_any (by rw [HN.out, HT.out]; rfl), n, rfl⟩
    · have hm' : 46 ∈ B := by simpa using hm
      have HT := hide (show nounT A B = none by simp [nounT, hm'])
      rw [hm] at C2
      clear hm hm' hne
      go_enter Tryd.func13, Tryd.ntmps13
      go_wp2_with (first | (go_at_call 22; refine (C1.out _).mono ?_; rintro e w' ⟨rfl, n, rfl⟩) | (go_at_call 26; refine (C2.out _).mono ?_; rintro e w' ⟨rfl, rfl⟩) | (go_at_call 27; refine (C3.out _).mono ?_; rintro e w' ⟨rfl, rfl⟩))
      refine bodyPost_ret (res4 rfl rfl rfl rfl rfl) rfl ?_
      exact ⟨ret_any (by rw [HN.out, HT.out]; rfl), n, rfl⟩
  · have hne : B = [] := List.isEmpty_iff.1 he
    have HT := hide (show nounT A B = none by simp [nounT, hne])
    clear hne
    go_enter Tryd.func13, Tryd.ntmps13
    go_wp2_with (first | (go_at_call 22; refine (C1.out _).mono ?_; rintro e w' ⟨rfl, n, rfl⟩) | (go_at_call 26; refine (C2.out _).mono ?_; rintro e w' ⟨rfl, rfl⟩) | (go_at_call 27; refine (C3.out _).mono ?_; rintro e w' ⟨rfl, rfl⟩))
    refine bodyPost_ret (res4 rfl rfl rfl rfl rfl) rfl ?_
    exact ⟨ret_any (by rw [HN.out, HT.out]; rfl), n, rfl⟩

set_option maxHeartbeats 1000000 in
theorem noun_any (s : ByteArray) (w : World) (hs : s.size ≤ 140737488355328) :
    Calls Tryd.prog 13 #[.string s] w fun e w' => e = .returned (nounA (nounL s.data.toList)) ∧ ∃ n, w' = w.drewN n := by
  cases ha : (s.toList == [97, 108, 108])
  · cases hd : (cutL 46 s.data.toList).2.2
    · exact noun_plain s w hs ha hd
    · exact noun_dotted s w hs ha hd
  · have HT := hide (show nounL s.data.toList = some (1, [], true) by
      have : s.data.toList = allW := by rw [Lib.toList_data] at ha; simpa [allW] using ha
      simp [nounL, this])
    go_enter Tryd.func13, Tryd.ntmps13
    go_wp2
    refine bodyPost_ret (res4 rfl rfl rfl rfl rfl) rfl ?_
    exact ⟨ret_any (by rw [HT.out]; rfl), 0, rfl⟩
end Go.Proofs.YtfbgaimjjfmfaacDoor
