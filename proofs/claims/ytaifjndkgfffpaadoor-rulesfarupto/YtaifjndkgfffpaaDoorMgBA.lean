/-
  The contract of Noun.
-/
import Derived.Test.YtaifjndkgfffpaaDoorMgAZ
import Derived.Test.YtaifjndkgfffpaaDoorRuGet
import Derived.Laws.OwnMore
namespace Go.Proofs.YtaifjndkgfffpaaDoor
open Go.RowKit
set_option linter.unusedVariables false

theorem bsl (l : List UInt8) : (bs l).toList = l := by rw [Lib.toList_data, bs_data]

theorem isEmpty_nil' {s : ByteArray} (h : s.toList.isEmpty = true) : s.data.toList = [] := by
  rw [Lib.toList_data] at h; exact List.isEmpty_iff.1 h

/-- What Noun answers. -/
def nounA (o : Option (Nat × List UInt8 × Bool)) : Value := match o with
  | some (n, name, every) => .tuple #[.int .i64 (n : Int), .string (bs name), .bool every, .int .i64 0]
  | none => .tuple #[.int .i64 0, .string (bs []), .bool false, .int .i64 1]

theorem res4 {fn : Func} {a b c d : Tmp} (hf : fn.results = #[.tmp a, .tmp b, .tmp c, .tmp d]) {tmps : Array Value} {w : World} {x y z u : Value}
    (h1 : tmps.getD a undef = x) (h2 : tmps.getD b undef = y) (h3 : tmps.getD c undef = z) (h4 : tmps.getD d undef = u) :
    (results fn tmps).run Tryd.prog w = .ok (.tuple #[x, y, z, u]) w := by
  simp only [Array.getD_eq_getD_getElem?] at h1 h2 h3 h4
  simp only [results, hf]
  simp [h1, h2, h3, h4]

theorem numA_some {l : List UInt8} {n : Nat} (h : numL l = some n) : numA l = ((n : Int), true) := by simp [numA, h]
theorem numA_none {l : List UInt8} (h : numL l = none) : numA l = (0, false) := by simp [numA, h]

set_option maxHeartbeats 4000000 in
set_option maxRecDepth 100000 in
theorem noun_plain (s : ByteArray) (w : World) (hs : s.size ≤ 140737488355328) (ha : (s.toList == [97, 108, 108]) = false) (hd : (cutL 46 s.data.toList).2.2 = false) :
    Calls Tryd.prog 99 #[.string s] w fun e w' => e = .returned (nounA (nounL s.data.toList)) ∧ ∃ n, w' = w.drewN n := by
  have hna : ¬ s.data.toList = allW := by
    intro e; rw [Lib.toList_data, e] at ha; simp [allW] at ha
  have C1 := hide (fun w' => cut_one s 46 w' hs)
  have HN := hide (show nounL s.data.toList = nounT [49] s.data.toList by simp [nounL, hna, hd])
  rw [hd] at C1
  generalize (cutL 46 s.data.toList).1 = A at C1
  generalize (cutL 46 s.data.toList).2.1 = B at C1
  clear hd
  have C2 := hide (fun w' => contains_one s 46 w')
  have C3 := hide (fun w' => number_any ⟨#[49]⟩ w' (by decide))
  cases he : s.toList.isEmpty
  · have hne : ¬ s.data.toList = [] := by intro e; rw [Lib.toList_data, e] at he; simp at he
    cases hm : decide (46 ∈ s.data.toList)
    · have hm' : ¬ 46 ∈ s.data.toList := by simpa using hm
      have HT := hide (show nounT [49] s.data.toList = some (1, s.data.toList, false) by simp [nounT, hne, hm', allW, numL])
      rw [hm] at C2
      clear hm hm' hne hna
      go_enter Tryd.func99, Tryd.ntmps99
      go_wp2_with (first | (go_at_call 107; refine (C1.out _).mono ?_; rintro e w' ⟨rfl, n, rfl⟩) | (go_at_call 108; refine (C2.out _).mono ?_; rintro e w' ⟨rfl, rfl⟩) | (go_at_call 109; refine (C3.out _).mono ?_; rintro e w' ⟨rfl, rfl⟩))
      refine bodyPost_ret (res4 rfl rfl rfl rfl rfl) rfl ?_
      exact ⟨ret_any (by rw [HN.out, HT.out]; show _ = Value.tuple _; rw [bs_of]; rfl), n, rfl⟩
    · have hm' : 46 ∈ s.data.toList := by simpa using hm
      have HT := hide (show nounT [49] s.data.toList = none by simp [nounT, hm'])
      rw [hm] at C2
      clear hm hm' hne hna
      go_enter Tryd.func99, Tryd.ntmps99
      go_wp2_with (first | (go_at_call 107; refine (C1.out _).mono ?_; rintro e w' ⟨rfl, n, rfl⟩) | (go_at_call 108; refine (C2.out _).mono ?_; rintro e w' ⟨rfl, rfl⟩) | (go_at_call 109; refine (C3.out _).mono ?_; rintro e w' ⟨rfl, rfl⟩))
      refine bodyPost_ret (res4 rfl rfl rfl rfl rfl) rfl ?_
      exact ⟨ret_any (by rw [HN.out, HT.out]; rfl), n, rfl⟩
  · have hne : s.data.toList = [] := isEmpty_nil' he
    have HT := hide (show nounT [49] s.data.toList = none by simp [nounT, hne])
    clear hne hna
    go_enter Tryd.func99, Tryd.ntmps99
    go_wp2_with (first | (go_at_call 107; refine (C1.out _).mono ?_; rintro e w' ⟨rfl, n, rfl⟩) | (go_at_call 108; refine (C2.out _).mono ?_; rintro e w' ⟨rfl, rfl⟩) | (go_at_call 109; refine (C3.out _).mono ?_; rintro e w' ⟨rfl, rfl⟩))
    refine bodyPost_ret (res4 rfl rfl rfl rfl rfl) rfl ?_
    exact ⟨ret_any (by rw [HN.out, HT.out]; rfl), n, rfl⟩

set_option maxHeartbeats 4000000 in
set_option maxRecDepth 100000 in
theorem noun_dotted (s : ByteArray) (w : World) (hs : s.size ≤ 140737488355328) (ha : (s.toList == [97, 108, 108]) = false) (hd : (cutL 46 s.data.toList).2.2 = true) :
    Calls Tryd.prog 99 #[.string s] w fun e w' => e = .returned (nounA (nounL s.data.toList)) ∧ ∃ n, w' = w.drewN n := by
  have hna : ¬ s.data.toList = allW := by
    intro e; rw [Lib.toList_data, e] at ha; simp [allW] at ha
  have C1 := hide (fun w' => cut_one s 46 w' hs)
  have hcl := cut_len 46 s.data.toList
  rw [size_len] at hcl
  have HN := hide (show nounL s.data.toList = nounT (cutL 46 s.data.toList).1 (cutL 46 s.data.toList).2.1 by simp [nounL, hna, hd])
  rw [hd] at C1
  generalize (cutL 46 s.data.toList).1 = A at C1 HN hcl
  generalize (cutL 46 s.data.toList).2.1 = B at C1 HN hcl
  clear hd hna
  have hsA : (bs A).size ≤ 140737488355328 := by rw [bs_size]; omega
  have C2 := hide (fun w' => contains_one (bs B) 46 w')
  have C3 := hide (fun w' => number_any (bs A) w' hsA)
  rw [bs_data] at C2 C3
  have hbt := bsl
  clear hcl hsA
  cases he : B.isEmpty
  · have hne : ¬ B = [] := by intro e; rw [e] at he; simp at he
    cases hm : decide (46 ∈ B)
    · have hm' : ¬ 46 ∈ B := by simpa using hm
      rw [hm] at C2
      cases hA : (A == [97, 108, 108])
      · have hA' : ¬ A = allW := by intro e; rw [e] at hA; simp [allW] at hA
        cases hn : numL A with
        | none =>
          have HT := hide (show nounT A B = none by simp [nounT, hne, hm', hA', hn])
          rw [numA_none hn] at C3
          clear hm hm' hne hA' hn
          go_enter Tryd.func99, Tryd.ntmps99
          go_wp2_with (first | (go_at_call 107; refine (C1.out _).mono ?_; rintro e w' ⟨rfl, n, rfl⟩) | (go_at_call 108; refine (C2.out _).mono ?_; rintro e w' ⟨rfl, rfl⟩) | (go_at_call 109; refine (C3.out _).mono ?_; rintro e w' ⟨rfl, rfl⟩))
          refine bodyPost_ret (res4 rfl rfl rfl rfl rfl) rfl ?_
          exact ⟨ret_any (by rw [HN.out, HT.out]; rfl), n, rfl⟩
        | some k =>
          have HT := hide (show nounT A B = some (k, B, false) by simp [nounT, hne, hm', hA', hn])
          rw [numA_some hn] at C3
          clear hm hm' hne hA' hn
          go_enter Tryd.func99, Tryd.ntmps99
          go_wp2_with (first | (go_at_call 107; refine (C1.out _).mono ?_; rintro e w' ⟨rfl, n, rfl⟩) | (go_at_call 108; refine (C2.out _).mono ?_; rintro e w' ⟨rfl, rfl⟩) | (go_at_call 109; refine (C3.out _).mono ?_; rintro e w' ⟨rfl, rfl⟩))
          refine bodyPost_ret (res4 rfl rfl rfl rfl rfl) rfl ?_
          exact ⟨ret_any (by rw [HN.out, HT.out]; rfl), n, rfl⟩
      · have hA' : A = allW := by simpa [allW] using hA
        have HT := hide (show nounT A B = some (1, B, true) by simp [nounT, hne, hm', hA'])
        clear hm hm' hne hA'
        go_enter Tryd.func99, Tryd.ntmps99
        go_wp2_with (first | (go_at_call 107; refine (C1.out _).mono ?_; rintro e w' ⟨rfl, n, rfl⟩) | (go_at_call 108; refine (C2.out _).mono ?_; rintro e w' ⟨rfl, rfl⟩) | (go_at_call 109; refine (C3.out _).mono ?_; rintro e w' ⟨rfl, rfl⟩))
        refine bodyPost_ret (res4 rfl rfl rfl rfl rfl) rfl ?_
        exact ⟨ret_any (by rw [HN.out, HT.out]; rfl), n, rfl⟩
    · have hm' : 46 ∈ B := by simpa using hm
      have HT := hide (show nounT A B = none by simp [nounT, hm'])
      rw [hm] at C2
      clear hm hm' hne
      go_enter Tryd.func99, Tryd.ntmps99
      go_wp2_with (first | (go_at_call 107; refine (C1.out _).mono ?_; rintro e w' ⟨rfl, n, rfl⟩) | (go_at_call 108; refine (C2.out _).mono ?_; rintro e w' ⟨rfl, rfl⟩) | (go_at_call 109; refine (C3.out _).mono ?_; rintro e w' ⟨rfl, rfl⟩))
      refine bodyPost_ret (res4 rfl rfl rfl rfl rfl) rfl ?_
      exact ⟨ret_any (by rw [HN.out, HT.out]; rfl), n, rfl⟩
  · have hne : B = [] := List.isEmpty_iff.1 he
    have HT := hide (show nounT A B = none by simp [nounT, hne])
    clear hne
    go_enter Tryd.func99, Tryd.ntmps99
    go_wp2_with (first | (go_at_call 107; refine (C1.out _).mono ?_; rintro e w' ⟨rfl, n, rfl⟩) | (go_at_call 108; refine (C2.out _).mono ?_; rintro e w' ⟨rfl, rfl⟩) | (go_at_call 109; refine (C3.out _).mono ?_; rintro e w' ⟨rfl, rfl⟩))
    refine bodyPost_ret (res4 rfl rfl rfl rfl rfl) rfl ?_
    exact ⟨ret_any (by rw [HN.out, HT.out]; rfl), n, rfl⟩

set_option maxHeartbeats 1000000 in
theorem noun_any (s : ByteArray) (w : World) (hs : s.size ≤ 140737488355328) :
    Calls Tryd.prog 99 #[.string s] w fun e w' => e = .returned (nounA (nounL s.data.toList)) ∧ ∃ n, w' = w.drewN n := by
  cases ha : (s.toList == [97, 108, 108])
  · cases hd : (cutL 46 s.data.toList).2.2
    · exact noun_plain s w hs ha hd
    · exact noun_dotted s w hs ha hd
  · have HT := hide (show nounL s.data.toList = some (1, [], true) by
      have : s.data.toList = allW := by rw [Lib.toList_data] at ha; simpa [allW] using ha
      simp [nounL, this])
    go_enter Tryd.func99, Tryd.ntmps99
    go_wp2
    refine bodyPost_ret (res4 rfl rfl rfl rfl rfl) rfl ?_
    exact ⟨ret_any (by rw [HT.out]; rfl), 0, rfl⟩
end Go.Proofs.YtaifjndkgfffpaaDoor
/-
  What is within reach; who is seen of a name; whom a word means: contracts.
-/
namespace Go.Proofs.YtaifjndkgfffpaaDoor
open Go.RowKit
set_option linter.unusedVariables false

theorem wl_append_none {ops : Array Oper} {rest : List Oper} {o : Oper} {a : Act} {w : World} {Q : Exit → Act → World → Prop} (s x : Operand) (ho : o.op = .call { callee := .builtin .append, args := #[s, x], argTypes := #[71, 71] }) (hw : Region.wanted o (yielded ops a.tmps) = true)
    (base : Nat) (v : Value) (q : List Int) (hs : a.eval s = v) (hown : OwnI base w v q) (hx : a.eval x = .slice none 0 0) (h : wpList Tryd.prog ops Q rest (a.put o.dst v) w) : wpList Tryd.prog ops Q (o :: rest) a w := by
  obtain ⟨i0, hi0, hz0, hz1, hz2⟩ := info_parts Tryd.info3
  refine wl_wanted hw ?_
  have hr := run_append_owned_none (P := Tryd.prog) (w := w) base 71 o.type 3 i0 1 Tryd.underlying71 hi0 v q.length (icells q) hown
  unfold Oper.wp execOp
  simp only [ho, resolve, invoke, builtin, Sem.run_bind, Sem.run_pure, Result.andThen_ok, List.map_toArray, List.map_cons, List.map_nil, hs, hx, hr]
  exact h

set_option maxRecDepth 100000 in
set_option maxHeartbeats 2000000 in
theorem reach_any {w0 : World} {L : Ld} {Es : List Ev} {w : World} (hS : Sn 62 [] w0 L Es w) (b : Nat) (hb : b < 6) :
    Calls Tryd.prog 91 #[.pointer (some ⟨w0.heap.size, 0, none⟩), .int .i64 (b : Int)] w fun e w' => ∃ v, e = .returned v ∧ OwnI w.heap.size w' v (reachL L b) ∧ Below w.heap.size w w' := by
  obtain ⟨i0, hi0, hz0, hz1, hz2⟩ := info_parts Tryd.info3
  go_enter Tryd.func91, Tryd.ntmps91
  go_wp2_with fail
  refine (rhand_any hS b).mono ?_
  rintro e w1 ⟨v1, rfl, ho1, hb1⟩
  have S1 := hide (hS.below hb1)
  have B1 := hide hb1
  have O1 := hide ho1
  obtain ⟨av1, cap1, rfl⟩ := ho1.shape
  clear ho1 hb1
  go_wp2_with fail
  refine (sight_any S1.out b hb).mono ?_
  rintro e w2 ⟨v2, rfl, ho2, hb2⟩
  have B2 := hide (B1.out.trans (hb2.mono B1.out.size))
  have O2 := hide (O1.out.below hb2)
  have hl1 := hand_len L b
  have hl2 := sight_len L b
  have HR := hide (show reachL L b = handL L b ++ sightL L b from rfl)
  have hz := B2.out.size
  generalize handL L b = q1 at *
  rcases ho2.2 with ⟨rfl, h0⟩ | ⟨g, cap2, cur, rfl, h1, h2, h3, h4, h5, h6⟩
  · have hq : sightL L b = [] := List.eq_nil_of_length_eq_zero h0
    rw [hq] at HR
    clear h0 hq ho2 hb2 S1 B1 O1 hS
    go_wp2_with (refine wl_append_none (.tmp 7) (.tmp 10) rfl rfl w.heap.size _ q1 rfl O2.out rfl ?_)
    go_ret
    exact ⟨_, rfl, by rw [HR.out, List.append_nil]; exact O2.out, B2.out⟩
  · have HC := hide (show ∀ j u, (icells (sightL L b))[j]? = some u → w2.cell? ((⟨g, 0, none⟩ : Addr).add j) = some u from ho2.cells rfl)
    clear ho2 hb2 S1 B1 O1 hS h1 h2 h3 h4 h5 h6
    generalize sightL L b = q2 at *
    go_wp2_with (at_builtin; refine wpList_append_own_at _ rfl (.tmp 7) (.tmp 10) 71 rfl w.heap.size 3 i0 (.int .i64 0) 1 8 Tryd.underlying71 hi0 hz0 hz1 hz2 rfl (by decide) _ q1.length (icells q1) rfl O2.out ⟨g, 0, none⟩ q2.length cap2 (icells q2) rfl ?a1 HC.out ?a3 ?a4 ?a5 ?a6 ?_)
    case a1 => simp [icells_length]
    case a3 => intro u hu; simp only [icells, List.mem_map] at hu; obtain ⟨n, _, rfl⟩ := hu; rfl
    case a4 => unfold maxLen; omega
    case a5 => omega
    case a6 => exact hz
    intro v' w3 hoo hg _ _
    have A : Hid (OwnI w.heap.size w3 v' (q1 ++ q2)) := by
      show w3.ownsRow _ _ _ _ _ _
      simpa [icells] using hoo
    have B : Hid (Below w.heap.size w w3) := B2.out.grown hg hz (fun k hk => (O2.out.lt k (by simpa using hk)).1)
    obtain ⟨av', cap', rfl⟩ := A.out.shape
    clear hoo hg
    go_wp2
    go_ret
    exact ⟨_, rfl, by rw [HR.out]; exact A.out, B.out⟩

/-- Those of a name whom a being sees. -/
def seenP (L : Ld) (b : Nat) (name : ByteArray) (c : Nat) : Bool := decide (L.bname c = name) && seesO L b c
def seenK (L : Ld) (b : Nat) (name : ByteArray) (k : Nat) : List Int := ((List.range k).filter (seenP L b name)).map Int.ofNat
theorem seen_yes {L : Ld} {b k : Nat} {name : ByteArray} (h : seenP L b name k = true) : seenK L b name (k + 1) = seenK L b name k ++ [(k : Int)] := by
  simp [seenK, List.range_succ, List.filter_append, h]
theorem seen_no {L : Ld} {b k : Nat} {name : ByteArray} (h : seenP L b name k = false) : seenK L b name (k + 1) = seenK L b name k := by
  simp [seenK, List.range_succ, List.filter_append, h]
theorem seen_len (L : Ld) (b : Nat) (name : ByteArray) (k : Nat) : (seenK L b name k).length ≤ k := by
  unfold seenK
  rw [List.length_map]
  exact Nat.le_trans (List.length_filter_le ..) (by simp)
theorem seen_mem {L : Ld} {b k : Nat} {name : ByteArray} {x : Int} (h : x ∈ seenK L b name k) : ∃ c : Nat, x = (c : Int) ∧ c < k ∧ seenP L b name c = true := by
  unfold seenK at h
  rw [List.mem_map] at h
  obtain ⟨i, hi, rfl⟩ := h
  rw [List.mem_filter] at hi
  exact ⟨i, rfl, by simpa using hi.1, hi.2⟩

set_option maxRecDepth 100000 in
set_option maxHeartbeats 2000000 in
theorem rseen_any {w0 : World} {L : Ld} {Es : List Ev} {w : World} (hS : Sn 62 [] w0 L Es w) (b : Nat) (name : ByteArray) :
    Calls Tryd.prog 101 #[.pointer (some ⟨w0.heap.size, 0, none⟩), .int .i64 (b : Int), .string name] w fun e w' => ∃ v, e = .returned v ∧ OwnI w.heap.size w' v (seenK L b name 6) ∧ Below w.heap.size w w' := by
  obtain ⟨i0, hi0, hz0, hz1, hz2⟩ := info_parts Tryd.info3
  have HS := hide hS
  clear hS
  go_enter Tryd.func101, Tryd.ntmps101
  go_wp2
  go_loopw [7, 9] (fun u c wr => ∃ k : Nat, k ≤ 6 ∧ c = .int .i64 k ∧ OwnI w.heap.size wr u (seenK L b name k) ∧ Below w.heap.size w wr) (fun _ c _ => 6 - (intOf c).toNat)
  case atStart => exact ⟨0, by omega, rfl, ownI_nil _ _, Below.refl _ _⟩
  case round =>
    obtain ⟨k, hle, rfl, ho, hlow⟩ := hrel
    obtain ⟨av, cap, rfl⟩ := ho.shape
    have HO := hide ho
    have HL := hide hlow
    clear ho hlow
    by_cases hk : k < 6
    · have hki : (k : Int) < 6 := by omega
      have SR := hide (HS.out.below HL.out)
      have c0 := SR.out.being k 0 hk (by omega)
      simp only [Nat.add_zero, Ld.beingCell] at c0
      cases hx : decide (L.bname k = name) with
      | false =>
        have hxl : ((L.bname k).toList == name.toList) = false := by rw [toList_eq]; exact hx
        have HN := hide (seen_no (L := L) (b := b) (k := k) (name := name) (by unfold seenP; rw [hx]; rfl))
        clear hx
        go_wp2
        go_roundw
        case rel => exact ⟨k + 1, by omega, by go_num, by rw [HN.out]; exact HO.out, HL.out⟩
        case measure => simp [intOf]; omega
      | true =>
        have hxl : ((L.bname k).toList == name.toList) = true := by rw [toList_eq]; exact hx
        have HX := hide hx
        clear hx
        go_wp2_with fail
        refine (seesOther_any SR.out b k).mono ?_
        rintro e w1 ⟨rfl, hb1⟩
        have HO1 := hide (HO.out.below hb1)
        have HL1 := hide (HL.out.trans (hb1.mono HL.out.size))
        clear hb1 c0 SR
        cases hy : seesO L b k with
        | false =>
          have HN := hide (seen_no (L := L) (b := b) (k := k) (name := name) (by unfold seenP; rw [hy, Bool.and_false]))
          clear hy
          go_wp2
          go_roundw
          case rel => exact ⟨k + 1, by omega, by go_num, by rw [HN.out]; exact HO1.out, HL1.out⟩
          case measure => simp [intOf]; omega
        | true =>
          have HN := hide (seen_yes (L := L) (b := b) (k := k) (name := name) (by unfold seenP; rw [HX.out, hy]; rfl))
          have hlen := seen_len L b name k
          have HOA := hide (HO1.out.below (below_box w1 (.cells #[.int .i64 (k : Int)] 3)))
          have hsz := HL1.out.size
          clear hy HO
          generalize seenK L b name k = Z at *
          go_wp2_with (at_builtin; refine wpList_append_own_at _ rfl (.tmp 28) (.tmp 30) 71 rfl w.heap.size 3 i0 (.int .i64 0) 1 8 Tryd.underlying71 hi0 hz0 hz1 hz2 rfl (by decide) _ Z.length (icells Z) rfl HOA.out ⟨_, 0, none⟩ 1 1 [.int .i64 (k : Int)] rfl ?a1 ?a2 ?a3 ?a4 ?a5 ?a6 ?_)
          case a1 => rfl
          case a2 => exact cell_one_new _ _ _
          case a3 => intro u hu; simp at hu; subst hu; rfl
          case a4 => unfold maxLen; omega
          case a5 => omega
          case a6 => simp; omega
          intro v' w2 hoo hg _ _
          have A : Hid (OwnI w.heap.size w2 v' (Z ++ [(k : Int)])) := by
            show w2.ownsRow _ _ _ _ _ _
            simpa [icells] using hoo
          have B : Hid (Below w.heap.size w w2) := (HL1.out.alloc hsz _).grown hg (by simp; omega) (fun j hj => (HOA.out.lt j (by simpa using hj)).1)
          obtain ⟨av', cap', rfl⟩ := A.out.shape
          clear hoo hg
          go_wp2
          go_roundw
          case rel => exact ⟨k + 1, by omega, by go_num, by rw [HN.out]; exact A.out, B.out⟩
          case measure => simp [intOf]; omega
    · have hk6 : k = 6 := by omega
      subst hk6
      go_wp2
      go_ret
      exact ⟨_, rfl, HO.out, HL.out⟩
end Go.Proofs.YtaifjndkgfffpaaDoor
