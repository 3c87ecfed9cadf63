/-
  What is within reach; who is seen of a name; whom a word means: contracts.
-/
import Derived.Test.YtaifjndkgfffpaaGreatDoorMgG
import Derived.Test.YtaifjndkgfffpaaGreatDoorMgH
import Derived.Laws.OwnMore
namespace Go.Proofs.YtaifjndkgfffpaaGreatDoor
open Go.RowKit
set_option linter.unusedVariables false
theorem wl_append_none {ops : Array Oper} {rest : List Oper} {o : Oper} {a : Act} {w : World} {Q : Exit → Act → World → Prop} (s x : Operand) (ho : o.op = .call { callee := .builtin .append, args := #[s, x], argTypes := #[59, 59] }) (hw : Region.wanted o (yielded ops a.tmps) = true)
    (base : Nat) (v : Value) (q : List Int) (hs : a.eval s = v) (hown : OwnI base w v q) (hx : a.eval x = .slice none 0 0) (h : wpList Tryz.prog ops Q rest (a.put o.dst v) w) : wpList Tryz.prog ops Q (o :: rest) a w := by
  obtain ⟨i0, hi0, hz0, hz1, hz2⟩ := info_parts Tryz.info3
  refine wl_wanted hw ?_
  have hr := run_append_owned_none (P := Tryz.prog) (w := w) base 59 o.type 3 i0 1 Tryz.underlying59 hi0 v q.length (icells q) hown
  unfold Oper.wp execOp
  simp only [ho, resolve, invoke, builtin, Sem.run_bind, Sem.run_pure, Result.andThen_ok, List.map_toArray, List.map_cons, List.map_nil, hs, hx, hr]
  exact h

set_option maxRecDepth 100000 in
set_option maxHeartbeats 2000000 in
theorem reach_any {w0 : World} {L : Ld} {Es : List Ev} {w : World} (hS : Sn 47 [] w0 L Es w) (b : Nat) (hb : b < 6) :
    Calls Tryz.prog 76 #[.pointer (some ⟨w0.heap.size, 0, none⟩), .int .i64 (b : Int)] w fun e w' => ∃ v, e = .returned v ∧ OwnI w.heap.size w' v (reachL L b) ∧ Below w.heap.size w w' := by
  obtain ⟨i0, hi0, hz0, hz1, hz2⟩ := info_parts Tryz.info3
  go_enter Tryz.func76, Tryz.ntmps76
  go_wp2_with fail
  refine (rhand_any hS b).mono ?_
  rintro e w1 ⟨v1, rfl, ho1, hb1⟩
  have S1 := hide (hS.below hb1)
  have B1 := hide hb1
  have O1 := hide ho1
  obtain ⟨av1, cap1, rfl⟩ := ho1.shape
  clear ho1 hb1
  go_wp2_with fail
  refine (sight_any S1.out b hb).mono ?_
  rintro e w2 ⟨v2, rfl, ho2, hb2⟩
  have B2 := hide (B1.out.trans (hb2.mono B1.out.size))
  have O2 := hide (O1.out.below hb2)
  have hl1 := hand_len L b
  have hl2 := sight_len L b
  have HR := hide (show reachL L b = handL L b ++ sightL L b from rfl)
  have hz := B2.out.size
  generalize handL L b = q1 at *
  rcases ho2.2 with ⟨rfl, h0⟩ | ⟨g, cap2, cur, rfl, h1, h2, h3, h4, h5, h6⟩
  · have hq : sightL L b = [] := List.eq_nil_of_length_eq_zero h0
    rw [hq] at HR
    clear h0 hq ho2 hb2 S1 B1 O1 hS
    go_wp2_with (refine wl_append_none (.tmp 7) (.tmp 10) rfl rfl w.heap.size _ q1 rfl O2.out rfl ?_)
    go_ret
    exact ⟨_, rfl, by rw [HR.out, List.append_nil]; exact O2.out, B2.out⟩
  · have HC := hide (show ∀ j u, (icells (sightL L b))[j]? = some u → w2.cell? ((⟨g, 0, none⟩ : Addr).add j) = some u from ho2.cells rfl)
    clear ho2 hb2 S1 B1 O1 hS h1 h2 h3 h4 h5 h6
    generalize sightL L b = q2 at *
    go_wp2_with (at_builtin; refine wpList_append_own_at _ rfl (.tmp 7) (.tmp 10) 59 rfl w.heap.size 3 i0 (.int .i64 0) 1 8 Tryz.underlying59 hi0 hz0 hz1 hz2 rfl (by decide) _ q1.length (icells q1) rfl O2.out ⟨g, 0, none⟩ q2.length cap2 (icells q2) rfl ?a1 HC.out ?a3 ?a4 ?a5 ?a6 ?_)
    case a1 => simp [icells_length]
    case a3 => intro u hu; simp only [icells, List.mem_map] at hu; obtain ⟨n, _, rfl⟩ := hu; rfl
    case a4 => unfold maxLen; omega
    case a5 => omega
    case a6 => exact hz
    intro v' w3 hoo hg _ _
    have A : Hid (OwnI w.heap.size w3 v' (q1 ++ q2)) := by
      show w3.ownsRow _ _ _ _ _ _
      simpa [icells] using hoo
    have B : Hid (Below w.heap.size w w3) := B2.out.grown hg hz (fun k hk => (O2.out.lt k (by simpa using hk)).1)
    obtain ⟨av', cap', rfl⟩ := A.out.shape
    clear hoo hg
    go_wp2
    go_ret
    exact ⟨_, rfl, by rw [HR.out]; exact A.out, B.out⟩

/-- Those of a name whom a being sees. -/
def seenP (L : Ld) (b : Nat) (name : ByteArray) (c : Nat) : Bool := decide (L.bname c = name) && seesO L b c
def seenK (L : Ld) (b : Nat) (name : ByteArray) (k : Nat) : List Int := ((List.range k).filter (seenP L b name)).map Int.ofNat
theorem seen_yes {L : Ld} {b k : Nat} {name : ByteArray} (h : seenP L b name k = true) : seenK L b name (k + 1) = seenK L b name k ++ [(k : Int)] := by
  simp [seenK, List.range_succ, List.filter_append, h]
theorem seen_no {L : Ld} {b k : Nat} {name : ByteArray} (h : seenP L b name k = false) : seenK L b name (k + 1) = seenK L b name k := by
  simp [seenK, List.range_succ, List.filter_append, h]
theorem seen_len (L : Ld) (b : Nat) (name : ByteArray) (k : Nat) : (seenK L b name k).length ≤ k := by
  unfold seenK
  rw [List.length_map]
  exact Nat.le_trans (List.length_filter_le ..) (by simp)
theorem seen_mem {L : Ld} {b k : Nat} {name : ByteArray} {x : Int} (h : x ∈ seenK L b name k) : ∃ c : Nat, x = (c : Int) ∧ c < k ∧ seenP L b name c = true := by
  unfold seenK at h
  rw [List.mem_map] at h
  obtain ⟨i, hi, rfl⟩ := h
  rw [List.mem_filter] at hi
  exact ⟨i, rfl, by simpa using hi.1, hi.2⟩

set_option maxRecDepth 100000 in
set_option maxHeartbeats 2000000 in
theorem rseen_any {w0 : World} {L : Ld} {Es : List Ev} {w : World} (hS : Sn 47 [] w0 L Es w) (b : Nat) (name : ByteArray) :
    Calls Tryz.prog 89 #[.pointer (some ⟨w0.heap.size, 0, none⟩), .int .i64 (b : Int), .string name] w fun e w' => ∃ v, e = .returned v ∧ OwnI w.heap.size w' v (seenK L b name 6) ∧ Below w.heap.size w w' := by
  obtain ⟨i0, hi0, hz0, hz1, hz2⟩ := info_parts Tryz.info3
  have HS := hide hS
  clear hS
  go_enter Tryz.func89, Tryz.ntmps89
  go_wp2
  go_loopw [7, 9] (fun u c wr => ∃ k : Nat, k ≤ 6 ∧ c = .int .i64 k ∧ OwnI w.heap.size wr u (seenK L b name k) ∧ Below w.heap.size w wr) (fun _ c _ => 6 - (intOf c).toNat)
  case atStart => exact ⟨0, by omega, rfl, ownI_nil _ _, Below.refl _ _⟩
  case round =>
    obtain ⟨k, hle, rfl, ho, hlow⟩ := hrel
    obtain ⟨av, cap, rfl⟩ := ho.shape
    have HO := hide ho
    have HL := hide hlow
    clear ho hlow
    by_cases hk : k < 6
    · have hki : (k : Int) < 6 := by omega
      have SR := hide (HS.out.below HL.out)
      have c0 := SR.out.being k 0 hk (by omega)
      simp only [Nat.add_zero, Ld.beingCell] at c0
      cases hx : decide (L.bname k = name) with
      | false =>
        have hxl : ((L.bname k).toList == name.toList) = false := by rw [toList_eq]; exact hx
        have HN := hide (seen_no (L := L) (b := b) (k := k) (name := name) (by unfold seenP; rw [hx]; rfl))
        clear hx
        go_wp2
        go_roundw
        case rel => exact ⟨k + 1, by omega, by go_num, by rw [HN.out]; exact HO.out, HL.out⟩
        case measure => simp [intOf]; omega
      | true =>
        have hxl : ((L.bname k).toList == name.toList) = true := by rw [toList_eq]; exact hx
        have HX := hide hx
        clear hx
        go_wp2_with fail
        refine (seesOther_any SR.out b k).mono ?_
        rintro e w1 ⟨rfl, hb1⟩
        have HO1 := hide (HO.out.below hb1)
        have HL1 := hide (HL.out.trans (hb1.mono HL.out.size))
        clear hb1 c0 SR
        cases hy : seesO L b k with
        | false =>
          have HN := hide (seen_no (L := L) (b := b) (k := k) (name := name) (by unfold seenP; rw [hy, Bool.and_false]))
          clear hy
          go_wp2
          go_roundw
          case rel => exact ⟨k + 1, by omega, by go_num, by rw [HN.out]; exact HO1.out, HL1.out⟩
          case measure => simp [intOf]; omega
        | true =>
          have HN := hide (seen_yes (L := L) (b := b) (k := k) (name := name) (by unfold seenP; rw [HX.out, hy]; rfl))
          have hlen := seen_len L b name k
          have HOA := hide (HO1.out.below (below_box w1 (.cells #[.int .i64 (k : Int)] 3)))
          have hsz := HL1.out.size
          clear hy HO
          generalize seenK L b name k = Z at *
          go_wp2_with (at_builtin; refine wpList_append_own_at _ rfl (.tmp 28) (.tmp 30) 59 rfl w.heap.size 3 i0 (.int .i64 0) 1 8 Tryz.underlying59 hi0 hz0 hz1 hz2 rfl (by decide) _ Z.length (icells Z) rfl HOA.out ⟨_, 0, none⟩ 1 1 [.int .i64 (k : Int)] rfl ?a1 ?a2 ?a3 ?a4 ?a5 ?a6 ?_)
          case a1 => rfl
          case a2 => exact cell_one_new _ _ _
          case a3 => intro u hu; simp at hu; subst hu; rfl
          case a4 => unfold maxLen; omega
          case a5 => omega
          case a6 => simp; omega
          intro v' w2 hoo hg _ _
          have A : Hid (OwnI w.heap.size w2 v' (Z ++ [(k : Int)])) := by
            show w2.ownsRow _ _ _ _ _ _
            simpa [icells] using hoo
          have B : Hid (Below w.heap.size w w2) := (HL1.out.alloc hsz _).grown hg (by simp; omega) (fun j hj => (HOA.out.lt j (by simpa using hj)).1)
          obtain ⟨av', cap', rfl⟩ := A.out.shape
          clear hoo hg
          go_wp2
          go_roundw
          case rel => exact ⟨k + 1, by omega, by go_num, by rw [HN.out]; exact A.out, B.out⟩
          case measure => simp [intOf]; omega
    · have hk6 : k = 6 := by omega
      subst hk6
      go_wp2
      go_ret
      exact ⟨_, rfl, HO.out, HL.out⟩
/-
  Whom, and which box, a word means: contracts.
-/
def nobodyS : ByteArray := ⟨#[84, 104, 101, 114, 101, 32, 105, 115, 32, 110, 111, 98, 111, 100, 121, 32, 111, 102, 32, 116, 104, 97, 116, 32, 110, 97, 109, 101, 46]⟩
/-- Whom a word means to a being. -/
def whoL (L : Ld) (b : Nat) (word : ByteArray) : Option Nat := match nounL word.data.toList with
  | none => none
  | some (n, name, every) => if every = true then none else (nthL (seenK L b (bs name) 6) (n : Int)).head?.map Int.toNat
theorem nth_head {q : List Int} {n : Int} {x : Int} (h : (nthL q n).head? = some x) : nthL q n = [x] := by
  unfold nthL at h ⊢
  split
  · rename_i h1; rw [if_pos h1] at h; simp at h
  · rename_i h1; rw [if_neg h1] at h; simpa using h
theorem nth_empty {q : List Int} {n : Int} (h : (nthL q n).head? = none) : nthL q n = [] := List.head?_eq_none_iff.1 h
theorem who_sees {L : Ld} {b c : Nat} {word : ByteArray} (h : whoL L b word = some c) : c < 6 ∧ seesO L b c = true := by
  unfold whoL at h
  split at h
  · simp at h
  · split at h
    · simp at h
    · rename_i n name every _ _
      cases hx : (nthL (seenK L b (bs name) 6) (n : Int)).head? with
      | none => rw [hx] at h; simp at h
      | some x =>
        rw [hx] at h
        simp at h
        have hm : x ∈ nthL (seenK L b (bs name) 6) (n : Int) := by rw [nth_head hx]; simp
        obtain ⟨i, e, hi, hp⟩ := seen_mem (nth_mem hm)
        unfold seenP at hp
        simp only [Bool.and_eq_true] at hp
        have : i = c := by omega
        subst this
        exact ⟨hi, hp.2⟩
theorem num_of {l : List UInt8} {n : Nat} {name : List UInt8} {every : Bool} (h : nounL l = some (n, name, every)) : n ≤ 99 := by
  have key : ∀ a b : List UInt8, nounT a b = some (n, name, every) → n ≤ 99 := by
    intro a b hh
    unfold nounT at hh
    split at hh <;> (try split at hh) <;> (try split at hh) <;> (first | (simp at hh; done) | (simp at hh; have := num_bound (by assumption); omega) | (simp at hh; omega) | (have := num_bound (by assumption); simp at hh; omega))
  unfold nounL at h
  split at h
  · simp at h; omega
  · split at h
    · exact key _ _ h
    · exact key _ _ h

theorem res_two {fn : Func} {u t : Tmp} (h : fn.results = #[.tmp u, .tmp t]) (tmps : Array Value) (w : World) (x y : Value) (hx : tmps.getD u undef = x) (hy : tmps.getD t undef = y) : (results fn tmps).run Tryz.prog w = .ok (.tuple #[x, y]) w := by
  have hx' : tmps[u]?.getD undef = x := by simpa using hx
  have hy' : tmps[t]?.getD undef = y := by simpa using hy
  simp [results, h, hx', hy']

set_option maxRecDepth 100000 in
set_option maxHeartbeats 2000000 in
theorem somebody_any {w0 : World} {L : Ld} {Es : List Ev} {w : World} (hS : Sn 47 [] w0 L Es w) (b : Nat) (hb : b < 6) (word : ByteArray) (hs : word.size ≤ 140737488355328) (hlen : Es.length ≤ 1000000) :
    Calls Tryz.prog 72 #[.pointer (some ⟨w0.heap.size, 0, none⟩), .int .i64 (b : Int), .string word] w fun e w' =>
      (∃ c, whoL L b word = some c ∧ e = .returned (.tuple #[.int .i64 (c : Int), .bool true]) ∧ Sn 47 [] w0 L Es w' ∧ Stp w0.heap.size 165 w w') ∨
      (whoL L b word = none ∧ e = .returned (.tuple #[.int .i64 0, .bool false]) ∧ Sn 47 [] w0 L (Es ++ [tellE L b nobodyS]) w' ∧ Stp w0.heap.size 165 w w') := by
  go_enter Tryz.func72, Tryz.ntmps72
  go_wp2_with fail
  refine (noun_any word _ hs).mono ?_
  rintro e w1 ⟨rfl, nd, hw1⟩
  have S1 := hide (show Sn 47 [] w0 L Es w1 by rw [hw1]; exact hS.drewN nd)
  have T1 := hide (show Stp w0.heap.size 165 w w1 by rw [hw1]; exact hS.stp (below_drewN (Below.refl _ _) nd) 165)
  clear hw1 hS
  cases hx : nounL word.data.toList with
  | none =>
    have HV := hide (show whoL L b word = none by unfold whoL; rw [hx])
    clear hx
    unfold nounA
    simp only
    go_wp2_with fail
    refine (rtell_any S1.out b hb _ hlen).mono ?_
    rintro e w2 ⟨rfl, S2h, T2h⟩
    have S2 := hide S2h
    have T2 := hide (T1.out.trans T2h)
    clear S2h T2h S1 T1
    go_wp2
    exact bodyPost_ret (v := .tuple #[.int .i64 0, .bool false]) (res_two rfl _ _ _ _ rfl rfl) rfl (.inr ⟨HV.out, rfl, S2.out, T2.out⟩)
  | some r =>
    obtain ⟨n, name, every⟩ := r
    have hn99 := num_of hx
    cases he : every with
    | true =>
      subst he
      have HV := hide (show whoL L b word = none by unfold whoL; rw [hx]; simp)
      clear hx
      unfold nounA
      simp only
      go_wp2_with fail
      refine (rtell_any S1.out b hb _ hlen).mono ?_
      rintro e w2 ⟨rfl, S2h, T2h⟩
      have S2 := hide S2h
      have T2 := hide (T1.out.trans T2h)
      clear S2h T2h S1 T1
      go_wp2
      exact bodyPost_ret (v := .tuple #[.int .i64 0, .bool false]) (res_two rfl _ _ _ _ rfl rfl) rfl (.inr ⟨HV.out, rfl, S2.out, T2.out⟩)
    | false =>
      subst he
      have HW := hide (show whoL L b word = (nthL (seenK L b (bs name) 6) (n : Int)).head?.map Int.toNat by unfold whoL; rw [hx]; simp)
      clear hx
      unfold nounA
      simp only
      go_wp2_with fail
      refine (rseen_any S1.out b (bs name)).mono ?_
      rintro e w2 ⟨v, rfl, ho, hb2⟩
      have S2 := hide (S1.out.below hb2)
      have T2 := hide (T1.out.trans (S1.out.stp hb2 165))
      have N2 := hide (numk_own S1.out hb2 ho)
      obtain ⟨av, cap, rfl⟩ := ho.shape
      have hsl := seen_len L b (bs name) 6
      have HM := hide (fun x (hx : x ∈ seenK L b (bs name) 6) => seen_mem hx)
      clear ho hb2 S1 T1
      generalize seenK L b (bs name) 6 = q at *
      go_wp2_with fail
      refine (rnth_any N2.out (by omega) (n : Int) (by omega) (by omega)).mono ?_
      rintro e w3 ⟨v', rfl, hK, hw3⟩
      rw [hw3]
      have NK := hide hK
      obtain ⟨av3, cap3, rfl⟩ := hK.shape
      clear hK hw3 w3
      cases hh : (nthL q (n : Int)).head? with
      | none =>
        have hz : nthL q (n : Int) = [] := nth_empty hh
        have HV := hide (show whoL L b word = none by rw [HW.out, hh]; rfl)
        rw [hz]
        clear hh hz NK
        go_wp2_with fail
        refine (rtell_any S2.out b hb _ hlen).mono ?_
        rintro e w4 ⟨rfl, S4h, T4h⟩
        have S4 := hide S4h
        have T4 := hide (T2.out.trans T4h)
        clear S4h T4h S2 T2
        go_wp2
        exact bodyPost_ret (v := .tuple #[.int .i64 0, .bool false]) (res_two rfl _ _ _ _ rfl rfl) rfl (.inr ⟨HV.out, rfl, S4.out, T4.out⟩)
      | some x =>
        have hz := nth_head hh
        obtain ⟨c, ec, hc, _⟩ := HM.out x (nth_mem (n := (n : Int)) (by rw [hz]; simp))
        subst ec
        have HV := hide (show whoL L b word = some c by rw [HW.out, hh]; simp)
        have NK2 := NK.out
        rw [hz] at NK2
        obtain ⟨bq, off, cap', e, hcell⟩ := NK2.cell (k := 0) (by simp)
        rw [hz]
        injection e with e1 e2 e3
        subst e1 e3
        simp only [List.length_singleton, Nat.add_zero, List.getD_cons_zero] at hcell e2 ⊢
        clear hh hz NK NK2
        go_wp2
        exact bodyPost_ret (v := .tuple #[.int .i64 (c : Int), .bool true]) (res_two rfl _ _ _ _ rfl rfl) rfl (.inl ⟨c, HV.out, rfl, S2.out, T2.out⟩)
/-
  Which box a word means: the contract.
-/
/-- Which open box a word means to a being; else what it is told. -/
def boxL (L : Ld) (b : Nat) (word : ByteArray) : Option Nat × ByteArray := match nounL word.data.toList with
  | none => (none, noThingS)
  | some (n, name, every) => if every = true then (none, noThingS) else
    match meantL L (reachL L b) (n : Int) false (bs name) with
    | [] => (none, noThingS)
    | i :: _ => if L.kind i.toNat = 3 then (if L.on i.toNat = true then (some i.toNat, ⟨#[]⟩) else (none, shutS)) else (none, noThingS)
theorem reach_lt {L : Ld} {b : Nat} {x : Int} (h : x ∈ reachL L b) : ∃ i : Nat, x = (i : Int) ∧ i < 9 := by
  rcases List.mem_append.1 h with h | h
  · exact hand_lt h
  · exact sight_lt h
theorem reach_len (L : Ld) (b : Nat) : (reachL L b).length ≤ 18 := by
  have h1 := hand_len L b
  have h2 := sight_len L b
  unfold reachL
  simp only [List.length_append]; omega
theorem box_lt {L : Ld} {b i : Nat} {word : ByteArray} (h : (boxL L b word).1 = some i) : i < 9 ∧ (i : Int) ∈ reachL L b ∧ L.kind i = 3 ∧ L.on i = true := by
  unfold boxL at h
  split at h
  · simp at h
  · split at h
    · simp at h
    · split at h
      · simp at h
      · rename_i n name every _ _ _ j r hq
        have hm : j ∈ reachL L b := meant_mem (L := L) (n := (n : Int)) (all := false) (name := bs name) (by rw [hq]; exact List.mem_cons_self ..)
        obtain ⟨k, rfl, hk⟩ := reach_lt hm
        split at h
        · split at h
          · rename_i h3 h4
            simp at h h3 h4
            subst h
            exact ⟨hk, hm, h3, h4⟩
          · simp at h
        · simp at h

set_option maxRecDepth 100000 in
set_option maxHeartbeats 2000000 in
theorem rbox_any {w0 : World} {L : Ld} {Es : List Ev} {w : World} (hS : Sn 47 [] w0 L Es w) (b : Nat) (hb : b < 6) (word : ByteArray) (hs : word.size ≤ 140737488355328) (hlen : Es.length ≤ 1000000) :
    Calls Tryz.prog 67 #[.pointer (some ⟨w0.heap.size, 0, none⟩), .int .i64 (b : Int), .string word] w fun e w' =>
      (∃ i, (boxL L b word).1 = some i ∧ e = .returned (.tuple #[.int .i64 (i : Int), .bool true]) ∧ Sn 47 [] w0 L Es w' ∧ Stp w0.heap.size 165 w w') ∨
      ((boxL L b word).1 = none ∧ e = .returned (.tuple #[.int .i64 0, .bool false]) ∧ Sn 47 [] w0 L (Es ++ [tellE L b (boxL L b word).2]) w' ∧ Stp w0.heap.size 165 w w') := by
  go_enter Tryz.func67, Tryz.ntmps67
  go_wp2_with fail
  refine (noun_any word _ hs).mono ?_
  rintro e w1 ⟨rfl, nd, hw1⟩
  have S1 := hide (show Sn 47 [] w0 L Es w1 by rw [hw1]; exact hS.drewN nd)
  have T1 := hide (show Stp w0.heap.size 165 w w1 by rw [hw1]; exact hS.stp (below_drewN (Below.refl _ _) nd) 165)
  clear hw1 hS
  cases hx : nounL word.data.toList with
  | none =>
    have HV := hide (show boxL L b word = (none, noThingS) by unfold boxL; rw [hx])
    clear hx
    unfold nounA
    simp only
    go_wp2_with fail
    refine (rtell_any S1.out b hb _ hlen).mono ?_
    rintro e w2 ⟨rfl, S2h, T2h⟩
    have S2 := hide S2h
    have T2 := hide (T1.out.trans T2h)
    clear S2h T2h S1 T1
    go_wp2
    exact bodyPost_ret (v := .tuple #[.int .i64 0, .bool false]) (res_two rfl _ _ _ _ rfl rfl) rfl (.inr ⟨by rw [HV.out], rfl, by rw [HV.out]; exact S2.out, T2.out⟩)
  | some r =>
    obtain ⟨n, name, every⟩ := r
    have hn99 := num_of hx
    cases he : every with
    | true =>
      subst he
      have HV := hide (show boxL L b word = (none, noThingS) by unfold boxL; rw [hx]; simp)
      clear hx
      unfold nounA
      simp only
      go_wp2_with fail
      refine (rtell_any S1.out b hb _ hlen).mono ?_
      rintro e w2 ⟨rfl, S2h, T2h⟩
      have S2 := hide S2h
      have T2 := hide (T1.out.trans T2h)
      clear S2h T2h S1 T1
      go_wp2
      exact bodyPost_ret (v := .tuple #[.int .i64 0, .bool false]) (res_two rfl _ _ _ _ rfl rfl) rfl (.inr ⟨by rw [HV.out], rfl, by rw [HV.out]; exact S2.out, T2.out⟩)
    | false =>
      subst he
      have HW := hide (show boxL L b word = (match meantL L (reachL L b) (n : Int) false (bs name) with
        | [] => (none, noThingS)
        | i :: _ => if L.kind i.toNat = 3 then (if L.on i.toNat = true then (some i.toNat, ⟨#[]⟩) else (none, shutS)) else (none, noThingS)) by unfold boxL; rw [hx]; simp)
      clear hx
      unfold nounA
      simp only
      go_wp2_with fail
      refine (reach_any S1.out b hb).mono ?_
      rintro e w2 ⟨v, rfl, ho, hb2⟩
      have S2 := hide (S1.out.below hb2)
      have T2 := hide (T1.out.trans (S1.out.stp hb2 165))
      have N2 := hide (numk_own S1.out hb2 ho)
      obtain ⟨av, cap, rfl⟩ := ho.shape
      have hrl := reach_len L b
      clear ho hb2 S1 T1
      go_wp2_with fail
      refine (meant_any S2.out N2.out (fun x hx => reach_lt hx) hrl { verb := 0, nth := (n : Int), all := false, name := bs name, second := ⟨#[]⟩, text := ⟨#[]⟩ } (by show -9223372036854775808 ≤ (n : Int); omega) (by show (n : Int) ≤ 9223372036854775807; omega)).mono ?_
      rintro e w3 ⟨v', rfl, hK, hb3⟩
      have S3 := hide (S2.out.below hb3)
      have T3 := hide (T2.out.trans (S2.out.stp hb3 165))
      have NK := hide hK
      obtain ⟨av3, cap3, rfl⟩ := hK.shape
      have HM := hide (fun x (hx : x ∈ meantL L (reachL L b) (n : Int) false (bs name)) => reach_lt (meant_mem hx))
      have hml : (meantL L (reachL L b) (n : Int) false (bs name)).length ≤ 1 := by
        unfold meantL nthL
        rw [if_neg (by simp)]
        split <;> simp
      clear hK hb3 S2 T2 N2
      simp only at NK ⊢
      generalize meantL L (reachL L b) (n : Int) false (bs name) = q at *
      cases q with
      | nil =>
        have HV := hide (show boxL L b word = (none, noThingS) from HW.out)
        clear NK
        go_wp2_with fail
        go_quiet (fail)
        go_wp2_with fail
        refine (rtell_any (S3.out.drewN nq) b hb _ hlen).mono ?_
        rintro e w4 ⟨rfl, S4h, T4h⟩
        have S4 := hide S4h
        have T4 := hide ((T3.out.trans (S3.out.stp (below_drewN (Below.refl _ _) nq) 165)).trans T4h)
        clear S4h T4h S3 T3
        go_wp2
        exact bodyPost_ret (v := .tuple #[.int .i64 0, .bool false]) (res_two rfl _ _ _ _ rfl rfl) rfl (.inr ⟨by rw [HV.out], rfl, by rw [HV.out]; exact S4.out, T4.out⟩)
      | cons x r =>
        obtain ⟨i, ei, hi⟩ := HM.out x (List.mem_cons_self ..)
        subst ei
        obtain ⟨bq, off, cap', e, hcell⟩ := NK.out.cell (k := 0) (by simp)
        injection e with e1 e2 e3
        subst e1 e3
        have hr0 : r = [] := List.eq_nil_of_length_eq_zero (by have h := hml; simp only [List.length_cons] at h; omega)
        subst hr0
        simp only [Nat.add_zero, List.getD_cons_zero, List.length_cons, List.length_nil, Nat.zero_add] at hcell e2 ⊢
        have hii : (i : Int) < 9 := by omega
        have c1 := S3.out.thing i 1 hi (by omega)
        have c4 := S3.out.thing i 4 hi (by omega)
        simp only [Ld.thingCell] at c1 c4
        have HI := hide (show boxL L b word = (if L.kind i = 3 then (if L.on i = true then (some i, ⟨#[]⟩) else (none, shutS)) else (none, noThingS)) from HW.out)
        clear NK HW HM e2 hml
        by_cases h3 : L.kind i = 3
        · have hk3 : (L.kind i != 3) = false := by simp [h3]
          cases h4 : L.on i with
          | true =>
            have HV := hide (show boxL L b word = (some i, ⟨#[]⟩) by rw [HI.out, if_pos h3, if_pos h4])
            rw [h4] at c4
            clear h3 h4 HI
            go_wp2_with fail
            go_quiet (fail)
            go_wp2_with fail
            go_quiet (fail)
            go_wp2
            refine bodyPost_ret (v := .tuple #[.int .i64 (i : Int), .bool true]) (res_two rfl _ _ _ _ rfl rfl) rfl (.inl ⟨i, by rw [HV.out], rfl, S3.out.drewN _, T3.out.trans (S3.out.stp (below_drewN (Below.refl _ _) _) 165)⟩)
          | false =>
            have HV := hide (show boxL L b word = (none, shutS) by rw [HI.out, if_pos h3, if_neg (by simp [h4])])
            rw [h4] at c4
            clear h3 h4 HI
            go_wp2_with fail
            go_quiet (fail)
            go_wp2_with fail
            go_quiet (fail)
            go_wp2_with fail
            refine (rtell_any (S3.out.drewN _) b hb _ hlen).mono ?_
            rintro e w4 ⟨rfl, S4h, T4h⟩
            have S4 := hide S4h
            have T4 := hide ((T3.out.trans (S3.out.stp (below_drewN (Below.refl _ _) _) 165)).trans T4h)
            clear S4h T4h S3 T3
            go_wp2
            exact bodyPost_ret (v := .tuple #[.int .i64 0, .bool false]) (res_two rfl _ _ _ _ rfl rfl) rfl (.inr ⟨by rw [HV.out], rfl, by rw [HV.out]; exact S4.out, T4.out⟩)
        · have hk3 : (L.kind i != 3) = true := by simp [h3]
          have HV := hide (show boxL L b word = (none, noThingS) by rw [HI.out, if_neg h3])
          clear h3 HI
          go_wp2_with fail
          go_quiet (fail)
          go_wp2_with fail
          refine (rtell_any (S3.out.drewN nq) b hb _ hlen).mono ?_
          rintro e w4 ⟨rfl, S4h, T4h⟩
          have S4 := hide S4h
          have T4 := hide ((T3.out.trans (S3.out.stp (below_drewN (Below.refl _ _) nq) 165)).trans T4h)
          clear S4h T4h S3 T3
          go_wp2
          exact bodyPost_ret (v := .tuple #[.int .i64 0, .bool false]) (res_two rfl _ _ _ _ rfl rfl) rfl (.inr ⟨by rw [HV.out], rfl, by rw [HV.out]; exact S4.out, T4.out⟩)
/-
  A fight is begun: the contract.
-/
def fightS : ByteArray := ⟨#[89, 111, 117, 32, 102, 105, 103, 104, 116, 46]⟩
/-- Two who fight. -/
def foesL (L : Ld) (b c : Nat) : Ld := if (L.setFoe b ((c : Int) + 1)).foe c = 0 then (L.setFoe b ((c : Int) + 1)).setFoe c ((b : Int) + 1) else L.setFoe b ((c : Int) + 1)
def hitW (L : Ld) (b : Nat) (O : Od) : Option Nat := if O.nth = 1 ∧ O.all = false then whoL L b O.name else none
def hitsL (L : Ld) (b : Nat) (O : Od) : Ld := match hitW L b O with
  | none => L
  | some c => foesL L b c
def hitsE (L : Ld) (b : Nat) (O : Od) : List Ev := match hitW L b O with
  | none => [tellE L b nobodyS]
  | some c => [tellE (foesL L b c) b fightS]

set_option maxRecDepth 100000 in
set_option maxHeartbeats 2000000 in
theorem rhit_any {w0 : World} {L : Ld} {Es : List Ev} {w : World} (hS : Sn 47 [] w0 L Es w) (b : Nat) (hb : b < 6) (O : Od) (hs : O.name.size ≤ 140737488355328) (hlen : Es.length ≤ 1000000) :
    Calls Tryz.prog 40 #[.pointer (some ⟨w0.heap.size, 0, none⟩), .int .i64 (b : Int), .agg O.cells] w fun e w' => e = .returned (.tuple #[]) ∧ Sn 47 [] w0 (hitsL L b O) (Es ++ hitsE L b O) w' ∧ Stp w0.heap.size 165 w w' := by
  have X0 := hide (hS.alloc (.cells O.cells 36))
  have T0 := hide (Stp.below (o := 165) (below_box w (.cells O.cells 36)) hS.lt)
  have G0 := heap_alloc_new w (.cells O.cells 36)
  have o1 : (w.alloc (.cells O.cells 36)).cell? ⟨w.heap.size, 1, none⟩ = some (.int .i64 O.nth) := by rw [cell_of_row _ _ _ _ _ _ G0]; rfl
  have o2 : (w.alloc (.cells O.cells 36)).cell? ⟨w.heap.size, 2, none⟩ = some (.bool O.all) := by rw [cell_of_row _ _ _ _ _ _ G0]; rfl
  have o3 : (w.alloc (.cells O.cells 36)).cell? ⟨w.heap.size, 3, none⟩ = some (.string O.name) := by rw [cell_of_row _ _ _ _ _ _ G0]; rfl
  clear hS G0
  have hbi : (b : Int) < 6 := by omega
  go_enter Tryz.func40, Tryz.ntmps40
  by_cases hg : O.nth = 1 ∧ O.all = false
  · have HW := hide (show hitW L b O = whoL L b O.name by unfold hitW; rw [if_pos hg])
    have hnb : (O.nth != 1) = false := by simp [hg.1]
    rw [hg.2] at o2
    clear hg
    go_upto_if 1 with fail
    generalize w.alloc (.cells O.cells 36) = wa at *
    go_wp2_with fail
    refine (somebody_any X0.out b hb O.name hs hlen).mono ?_
    rintro e w1 h
    clear o1 o2 o3
    rcases h with ⟨c, hc, rfl, S1h, T1h⟩ | ⟨hc, rfl, S1h, T1h⟩
    · have HL := hide (show hitsL L b O = foesL L b c by unfold hitsL; rw [HW.out, hc])
      have HE := hide (show hitsE L b O = [tellE (foesL L b c) b fightS] by unfold hitsE; rw [HW.out, hc])
      obtain ⟨h6, hsee⟩ := who_sees hc
      have hcb : c ≠ b := by
        unfold seesO at hsee
        simp only [Bool.and_eq_true, decide_eq_true_eq] at hsee
        exact hsee.1
      have hci : (c : Int) < 6 := by omega
      have S1 := hide S1h
      have T1 := hide (T0.out.trans T1h)
      have d5 := S1h.being b 5 hb (by omega)
      have e5 := S1h.being c 5 h6 (by omega)
      have f5 := S1h.soft (129 + b * 6 + 5)
      have g5 := S1h.soft (129 + c * 6 + 5)
      simp only [Ld.beingCell] at d5 e5
      have X1 := hide (S1h.set (by omega) (L.up_foe b hb ((c : Int) + 1)))
      have Y1 : Hid (Stp w0.heap.size 165 w1 (w1.setCell ⟨w0.heap.size, 129 + b * 6 + 5, none⟩ (.int .i64 ((c : Int) + 1)))) := Stp.put (by omega)
      have hne : 129 + c * 6 + 5 ≠ 129 + b * 6 + 5 := by omega
      have hne2 : 129 + b * 6 + 5 ≠ 129 + c * 6 + 5 := by omega
      have hfe : (L.setFoe b ((c : Int) + 1)).foe c = L.foe c := by simp [Ld.setFoe, hcb]
      by_cases h0 : L.foe c = 0
      · have HF := hide (show foesL L b c = (L.setFoe b ((c : Int) + 1)).setFoe c ((b : Int) + 1) by unfold foesL; rw [hfe, if_pos h0])
        rw [h0] at e5
        have X2 := hide (X1.out.set (by omega) ((L.setFoe b ((c : Int) + 1)).up_foe c h6 ((b : Int) + 1)))
        have Y2 : Hid (Stp w0.heap.size 165 (w1.setCell ⟨w0.heap.size, 129 + b * 6 + 5, none⟩ (.int .i64 ((c : Int) + 1))) ((w1.setCell ⟨w0.heap.size, 129 + b * 6 + 5, none⟩ (.int .i64 ((c : Int) + 1))).setCell ⟨w0.heap.size, 129 + c * 6 + 5, none⟩ (.int .i64 ((b : Int) + 1)))) := Stp.put (by omega)
        clear S1h T1h hc hsee h0 hfe
        go_wp2_with fail
        refine (rtell_any X2.out b hb _ hlen).mono ?_
        rintro e w2 ⟨rfl, S2h, T2h⟩
        have S2 := hide S2h
        have T2 := hide (T1.out.trans (Y1.out.trans (Y2.out.trans T2h)))
        clear S2h T2h X1 X2 Y1 Y2 S1 T1
        go_wp2
        go_end0
        exact ⟨rfl, by rw [HL.out, HE.out, HF.out]; exact S2.out, T2.out⟩
      · have HF := hide (show foesL L b c = L.setFoe b ((c : Int) + 1) by unfold foesL; rw [hfe, if_neg h0])
        have h0b : (L.foe c == 0) = false := by simp [h0]
        clear S1h T1h hc hsee h0 hfe
        go_wp2_with fail
        refine (rtell_any X1.out b hb _ hlen).mono ?_
        rintro e w2 ⟨rfl, S2h, T2h⟩
        have S2 := hide S2h
        have T2 := hide (T1.out.trans (Y1.out.trans T2h))
        clear S2h T2h X1 Y1 S1 T1
        go_wp2
        go_end0
        exact ⟨rfl, by rw [HL.out, HE.out, HF.out]; exact S2.out, T2.out⟩
    · have HL := hide (show hitsL L b O = L by unfold hitsL; rw [HW.out, hc])
      have HE := hide (show hitsE L b O = [tellE L b nobodyS] by unfold hitsE; rw [HW.out, hc])
      have S1 := hide S1h
      have T1 := hide (T0.out.trans T1h)
      clear S1h T1h hc
      go_wp2
      exact bodyPost_ret (v := .tuple #[]) (results_none rfl _ _ _) rfl ⟨rfl, by rw [HL.out, HE.out]; exact S1.out, T1.out⟩
  · have HW := hide (show hitW L b O = none by unfold hitW; rw [if_neg hg])
    have HL := hide (show hitsL L b O = L by unfold hitsL; rw [HW.out])
    have HE := hide (show hitsE L b O = [tellE L b nobodyS] by unfold hitsE; rw [HW.out])
    have hg2 : (O.nth != 1) = true ∨ ((O.nth != 1) = false ∧ O.all = true) := by
      by_cases h : O.nth = 1
      · exact .inr ⟨by simp [h], by cases h4 : O.all with
          | true => rfl
          | false => exact absurd ⟨h, h4⟩ hg⟩
      · exact .inl (by simp [h])
    clear hg
    rcases hg2 with hnb | ⟨hnb, h4⟩
    all_goals
      (try rw [h4] at o2)
      go_upto_if 1 with fail
      generalize w.alloc (.cells O.cells 36) = wa at *
      go_wp2_with fail
      refine (rtell_any X0.out b hb _ hlen).mono ?_
      rintro e w1 ⟨rfl, S1h, T1h⟩
      have S1 := hide S1h
      have T1 := hide (T0.out.trans T1h)
      clear S1h T1h o1 o2 o3
      go_wp2
      exact bodyPost_ret (v := .tuple #[]) (results_none rfl _ _ _) rfl ⟨rfl, by rw [HL.out, HE.out]; exact S1.out, T1.out⟩
/-
  What is in a box is taken: the contract, where a box is named; and of both.
-/
def inL (L : Ld) (i : Nat) (O : Od) : List Int := meantL L (hasK L 2 (i : Int) 9) O.nth O.all O.name
theorem in_lt {L : Ld} {i : Nat} {O : Od} {x : Int} (h : x ∈ inL L i O) : ∃ i : Nat, x = (i : Int) ∧ i < 9 := has_lt (meant_mem h)
theorem in_len (L : Ld) (i : Nat) (O : Od) : (inL L i O).length ≤ 9 := by
  have h0 : (hasK L 2 (i : Int) 9).length ≤ 9 := hasK_len ..
  have h1 := List.length_filter_le (fits L O.name) (hasK L 2 (i : Int) 9)
  unfold inL meantL nthL
  split
  · omega
  · split <;> simp
def getBL (L : Ld) (b : Nat) (O : Od) : Ld := match (boxL L b O.second).1 with
  | none => L
  | some i => (takeS L b (inL L i O)).1
def getBE (L : Ld) (b : Nat) (O : Od) : List Ev := match (boxL L b O.second).1 with
  | none => [tellE L b (boxL L b O.second).2]
  | some i => sigE L b (inL L i O) noThingS ++ (takeS L b (inL L i O)).2
def getAL (L : Ld) (b : Nat) (O : Od) : Ld := if O.second = ⟨#[]⟩ then getL L b O else getBL L b O
def getAE (L : Ld) (b : Nat) (O : Od) : List Ev := if O.second = ⟨#[]⟩ then getE L b O else getBE L b O

set_option maxRecDepth 100000 in
set_option maxHeartbeats 2000000 in
theorem rgetB_any {w0 : World} {L : Ld} {Es : List Ev} {w : World} (hS : Sn 47 [] w0 L Es w) (b : Nat) (hb : b < 6) (O : Od) (h2 : O.second ≠ ⟨#[]⟩) (hs : O.second.size ≤ 140737488355328) (hn0 : -9223372036854775808 ≤ O.nth) (hn1 : O.nth ≤ 9223372036854775807) (hlen : Es.length ≤ 900000) :
    Calls Tryz.prog 30 #[.pointer (some ⟨w0.heap.size, 0, none⟩), .int .i64 (b : Int), .agg O.cells] w fun e w' => e = .returned (.tuple #[]) ∧ Sn 47 [] w0 (getBL L b O) (Es ++ getBE L b O) w' ∧ Stp w0.heap.size 165 w w' := by
  have hsn : O.second.toList.isEmpty = false := by rw [empty_iff]; simpa using h2
  have X0 := hide (hS.alloc (.cells O.cells 36))
  have T0 := hide (Stp.below (o := 165) (below_box w (.cells O.cells 36)) hS.lt)
  have L0 := hide (below_box w (.cells O.cells 36))
  have G0 := hide (heap_alloc_new w (.cells O.cells 36))
  have K0 := hide (hS.kept (below_box w (.cells O.cells 36)) (Nat.le_refl _) (by simp))
  clear hS h2
  go_enter Tryz.func30, Tryz.ntmps30
  go_wp2_with fail
  refine (sight_any X0.out b hb).mono ?_
  rintro e w1 ⟨v, rfl, ho, hb1⟩
  have S1 := hide (X0.out.below hb1)
  have T1 := hide (T0.out.trans (X0.out.stp hb1 165))
  have N1 := hide (numk_own X0.out hb1 ho)
  have G1 := hide (show w1.heap[w.heap.size]? = some (.cells O.cells 36 (0, 0)) by rw [hb1.block _ (by simp)]; exact G0.out)
  have o4 : w1.cell? ⟨w.heap.size, 4, none⟩ = some (.string O.second) := by rw [cell_of_row _ _ _ _ _ _ G1.out]; rfl
  have K1 := hide ((X0.out.stp hb1 165).kept K0.out).1
  obtain ⟨av, cap, rfl⟩ := ho.shape
  clear ho hb1 X0 T0 L0 G0 K0 N1
  go_wp2_with fail
  refine (rbox_any S1.out b hb O.second hs (by omega)).mono ?_
  rintro e w1b h
  clear o4
  rcases h with ⟨box, hbx, rfl, S1h, T1h⟩ | ⟨hbx, rfl, S1h, T1h⟩
  rotate_left
  · have HL := hide (show getBL L b O = L by unfold getBL; rw [hbx])
    have HE := hide (show getBE L b O = [tellE L b (boxL L b O.second).2] by unfold getBE; rw [hbx])
    have S1b := hide S1h
    have T1b := hide (T1.out.trans T1h)
    clear S1h T1h hbx
    go_wp2
    exact bodyPost_ret (v := .tuple #[]) (results_none rfl _ _ _) rfl ⟨rfl, by rw [HL.out, HE.out]; exact S1b.out, T1b.out⟩
  have HL := hide (show getBL L b O = (takeS L b (inL L box O)).1 by unfold getBL; rw [hbx])
  have HE := hide (show getBE L b O = sigE L b (inL L box O) noThingS ++ (takeS L b (inL L box O)).2 by unfold getBE; rw [hbx])
  have S1b := hide S1h
  have T1b := hide (T1.out.trans T1h)
  have K1b := hide (T1h.kept K1.out).1
  have G1b := hide ((T1h.kept K1.out).2.trans G1.out)
  clear S1h T1h hbx S1 T1 G1 K1
  go_wp2_with (refine wl_scene (.tmp 29) rfl rfl rfl S1b.out ?_)
  refine (has_own L 2 (box : Int) _).mono ?_
  rintro e w1c ⟨v, rfl, ho, hbc⟩
  have S1c := hide (S1b.out.below hbc)
  have T1c := hide (T1b.out.trans (S1b.out.stp hbc 165))
  have G1c := hide (((S1b.out.stp hbc 165).kept K1b.out).2.trans G1b.out)
  have N1c := hide (numk_own S1b.out hbc (OwnI.base (show OwnI _ _ _ _ from ho) (Nat.le_succ _)))
  obtain ⟨avc, capc, rfl⟩ := own_shapeN ho
  have hsl : (hasK L 2 (box : Int) 9).length ≤ 9 := hasK_len ..
  clear ho hbc S1b T1b G1b K1b
  go_wp2_with (refine wl_wanted rfl (wp_load_row 36 (.tmp 5) rfl w.heap.size rfl 36 O.cells (0, 0) _ G1c.out Tryz.underlying36 rfl Tryz.sizeOrder ?_))
  refine (meant_any S1c.out N1c.out (fun x hx => has_lt hx) (by omega) O hn0 hn1).mono ?_
  rintro e w2 ⟨v', rfl, hK, hb2⟩
  have S2 := hide (S1c.out.below hb2)
  have T2 := hide (T1c.out.trans (S1c.out.stp hb2 165))
  have N2 := hide hK
  obtain ⟨av2, cap2, rfl⟩ := hK.shape
  have HM := hide (fun x (hx : x ∈ inL L box O) => in_lt hx)
  have hml := in_len L box O
  change Hid (NumK _ _ _ (.slice av2 (inL L box O).length cap2) (inL L box O)) at N2
  rw [show meantL L (hasK L 2 (box : Int) 9) O.nth O.all O.name = inL L box O from rfl]
  clear hK hb2 S1c T1c N1c G1c hsl hsn
  generalize inL L box O = q at *
  generalize hn : q.length = n at *
  have HNn := hide hn
  clear hn
  cases hz : decide (n = 0) with
  | true =>
    have hz0 : n = 0 := by simpa using hz
    subst hz0
    have hq0 : q = [] := List.eq_nil_of_length_eq_zero HNn.out
    have HE2 := hide (show getBE L b O = [tellE L b noThingS] by rw [HE.out, hq0]; rfl)
    have HL2 := hide (show getBL L b O = L by rw [HL.out, hq0]; rfl)
    clear hz hq0
    go_wp2_with fail
    refine (rtell_any S2.out b hb _ (by omega)).mono ?_
    rintro e w3 ⟨rfl, S3h, T3h⟩
    have S3 := hide S3h
    have T3 := hide (T2.out.trans T3h)
    clear S3h T3h S2 T2 N2
    go_wp2_with fail
    go_loopw [45] (fun c wr => c = .int .i64 0 ∧ wr = w3) (fun _ _ => 0)
    case atStart => exact ⟨rfl, rfl⟩
    case round =>
      obtain ⟨rfl, rfl⟩ := hrel
      go_wp2
      go_end0
      exact ⟨rfl, by rw [HL2.out, HE2.out]; exact S3.out, T3.out⟩
  | false =>
    have hz0 : n ≠ 0 := by simpa using hz
    have hzi : ((n : Int) == 0) = false := by simp; omega
    have hq0 : q ≠ [] := fun e => by have := HNn.out; rw [e] at this; simp at this; omega
    have HE2 := hide (show getBE L b O = (takeS L b q).2 by rw [HE.out]; unfold sigE; rw [if_neg hq0]; rfl)
    clear hz hq0
    go_wp2_with fail
    go_loopw [45] (fun c wr => ∃ k : Nat, k ≤ n ∧ c = .int .i64 k ∧ Sn 47 [] w0 (takeS L b (q.take k)).1 (Es ++ (takeS L b (q.take k)).2) wr ∧ Stp w0.heap.size 165 w wr ∧ NumK w0.heap.size 165 wr (.slice av2 n cap2) q) (fun c _ => n - (intOf c).toNat)
    case atStart => exact ⟨0, by omega, rfl, by simpa [takeS] using S2.out, T2.out, N2.out⟩
    case round =>
      obtain ⟨k, hle, rfl, Rh, Th, Nh⟩ := hrel
      have R := hide Rh
      have TT := hide Th
      have N := hide Nh
      clear Rh Th Nh S2 T2 N2
      by_cases hk : k < n
      · have hkq : k < q.length := by rw [HNn.out]; exact hk
        obtain ⟨bq, off, cap', e, hcell⟩ := N.out.cell hkq
        rw [HNn.out] at e
        injection e with e1 e2 e3
        subst e1 e3
        obtain ⟨i, ei, hi⟩ := HM.out _ (getD_mem hkq)
        have HT := hide (show takeS L b (q.take (k + 1)) = gstep b (takeS L b (q.take k)) (i : Int) by rw [take_next L b hkq, ei])
        rw [ei] at hcell
        have htl : (takeS L b (q.take k)).2.length ≤ 9 := by rw [take_len]; simp; omega
        clear ei
        go_wp2_with fail
        refine (revent_any R.out 3 b hb).mono ?_
        rintro e w3 ⟨rfl, hb3⟩
        have R3 := hide (R.out.below hb3)
        have T3 := hide (TT.out.trans (R.out.stp hb3 165))
        have N3 := hide (N.out.step (R.out.stp hb3 165))
        clear hb3 R TT N
        go_wp2_with fail
        refine (rmove_any R3.out i hi 1 (b : Int) (evN (takeS L b (q.take k)).1 3 b) (by simp only [List.length_append]; omega)).mono ?_
        rintro e w4 ⟨rfl, S4h, T4h⟩
        have S4 := hide S4h
        have T4 := hide (T3.out.trans T4h)
        have N4 := hide (N3.out.step T4h)
        clear S4h T4h R3 T3 N3
        go_wp2
        go_roundw
        case rel => exact ⟨k + 1, by omega, by go_num, by rw [HT.out]; simpa only [gstep, Int.toNat_natCast, List.append_assoc] using S4.out, T4.out, N4.out⟩
        case measure => simp [intOf]; omega
      · have hkn : k = n := by omega
        subst hkn
        have hall : q.take k = q := by rw [← HNn.out]; exact List.take_length
        rw [hall] at R
        clear hall
        go_wp2
        go_end0
        exact ⟨rfl, by rw [HL.out, HE2.out]; exact R.out, TT.out⟩
theorem rgetA_any {w0 : World} {L : Ld} {Es : List Ev} {w : World} (hS : Sn 47 [] w0 L Es w) (b : Nat) (hb : b < 6) (O : Od) (hs : O.second.size ≤ 140737488355328) (hn0 : -9223372036854775808 ≤ O.nth) (hn1 : O.nth ≤ 9223372036854775807) (hlen : Es.length ≤ 900000) :
    Calls Tryz.prog 30 #[.pointer (some ⟨w0.heap.size, 0, none⟩), .int .i64 (b : Int), .agg O.cells] w fun e w' => e = .returned (.tuple #[]) ∧ Sn 47 [] w0 (getAL L b O) (Es ++ getAE L b O) w' ∧ Stp w0.heap.size 165 w w' := by
  unfold getAL getAE
  by_cases h : O.second = ⟨#[]⟩
  · rw [if_pos h, if_pos h]; exact rget_any hS b hb O h hn0 hn1 hlen
  · rw [if_neg h, if_neg h]; exact rgetB_any hS b hb O h hs hn0 hn1 hlen
end Go.Proofs.YtaifjndkgfffpaaGreatDoor
