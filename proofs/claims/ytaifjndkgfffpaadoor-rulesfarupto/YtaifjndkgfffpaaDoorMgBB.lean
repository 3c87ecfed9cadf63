/-
  Whom, and which box, a word means: contracts.
-/
import Derived.Test.YtaifjndkgfffpaaDoorMgBA
import Derived.Test.YtaifjndkgfffpaaDoorMgAL
namespace Go.Proofs.YtaifjndkgfffpaaDoor
open Go.RowKit
set_option linter.unusedVariables false

def nobodyS : ByteArray := ⟨#[84, 104, 101, 114, 101, 32, 105, 115, 32, 110, 111, 98, 111, 100, 121, 32, 111, 102, 32, 116, 104, 97, 116, 32, 110, 97, 109, 101, 46]⟩
/-- Whom a word means to a being. -/
def whoL (L : Ld) (b : Nat) (word : ByteArray) : Option Nat := match nounL word.data.toList with
  | none => none
  | some (n, name, every) => if every = true then none else (nthL (seenK L b (bs name) 6) (n : Int)).head?.map Int.toNat
theorem nth_head {q : List Int} {n : Int} {x : Int} (h : (nthL q n).head? = some x) : nthL q n = [x] := by
  unfold nthL at h ⊢
  split
  · rename_i h1; rw [if_pos h1] at h; simp at h
  · rename_i h1; rw [if_neg h1] at h; simpa using h
theorem nth_empty {q : List Int} {n : Int} (h : (nthL q n).head? = none) : nthL q n = [] := List.head?_eq_none_iff.1 h
theorem who_sees {L : Ld} {b c : Nat} {word : ByteArray} (h : whoL L b word = some c) : c < 6 ∧ seesO L b c = true := by
  unfold whoL at h
  split at h
  · simp at h
  · split at h
    · simp at h
    · rename_i n name every _ _
      cases hx : (nthL (seenK L b (bs name) 6) (n : Int)).head? with
      | none => rw [hx] at h; simp at h
      | some x =>
        rw [hx] at h
        simp at h
        have hm : x ∈ nthL (seenK L b (bs name) 6) (n : Int) := by rw [nth_head hx]; simp
        obtain ⟨i, e, hi, hp⟩ := seen_mem (nth_mem hm)
        unfold seenP at hp
        simp only [Bool.and_eq_true] at hp
        have : i = c := by omega
        subst this
        exact ⟨hi, hp.2⟩
theorem num_of {l : List UInt8} {n : Nat} {name : List UInt8} {every : Bool} (h : nounL l = some (n, name, every)) : n ≤ 99 := by
  have key : ∀ a b : List UInt8, nounT a b = some (n, name, every) → n ≤ 99 := by
    intro a b hh
    unfold nounT at hh
    split at hh <;> (try split at hh) <;> (try split at hh) <;> (first | (simp at hh; done) | (simp at hh; have := num_bound (by assumption); omega) | (simp at hh; omega) | (have := num_bound (by assumption); simp at hh; omega))
  unfold nounL at h
  split at h
  · simp at h; omega
  · split at h
    · exact key _ _ h
    · exact key _ _ h

theorem res_two {fn : Func} {u t : Tmp} (h : fn.results = #[.tmp u, .tmp t]) (tmps : Array Value) (w : World) (x y : Value) (hx : tmps.getD u undef = x) (hy : tmps.getD t undef = y) : (results fn tmps).run Tryd.prog w = .ok (.tuple #[x, y]) w := by
  have hx' : tmps[u]?.getD undef = x := by simpa using hx
  have hy' : tmps[t]?.getD undef = y := by simpa using hy
  simp [results, h, hx', hy']

set_option maxRecDepth 100000 in
set_option maxHeartbeats 2000000 in
theorem somebody_any {w0 : World} {L : Ld} {Es : List Ev} {w : World} (hS : Sn 62 [] w0 L Es w) (b : Nat) (hb : b < 6) (word : ByteArray) (hs : word.size ≤ 140737488355328) (hlen : Es.length ≤ 1000000) :
    Calls Tryd.prog 89 #[.pointer (some ⟨w0.heap.size, 0, none⟩), .int .i64 (b : Int), .string word] w fun e w' =>
      (∃ c, whoL L b word = some c ∧ e = .returned (.tuple #[.int .i64 (c : Int), .bool true]) ∧ Sn 62 [] w0 L Es w' ∧ Stp w0.heap.size 165 w w') ∨
      (whoL L b word = none ∧ e = .returned (.tuple #[.int .i64 0, .bool false]) ∧ Sn 62 [] w0 L (Es ++ [tellE L b nobodyS]) w' ∧ Stp w0.heap.size 165 w w') := by
  go_enter Tryd.func89, Tryd.ntmps89
  go_wp2_with fail
  refine (noun_any word _ hs).mono ?_
  rintro e w1 ⟨rfl, nd, hw1⟩
  have S1 := hide (show Sn 62 [] w0 L Es w1 by rw [hw1]; exact hS.drewN nd)
  have T1 := hide (show Stp w0.heap.size 165 w w1 by rw [hw1]; exact hS.stp (below_drewN (Below.refl _ _) nd) 165)
  clear hw1 hS
  cases hx : nounL word.data.toList with
  | none =>
    have HV := hide (show whoL L b word = none by unfold whoL; rw [hx])
    clear hx
    unfold nounA
    simp only
    go_wp2_with fail
    refine (rtell_any S1.out b hb _ hlen).mono ?_
    rintro e w2 ⟨rfl, S2h, T2h⟩
    have S2 := hide S2h
    have T2 := hide (T1.out.trans T2h)
    clear S2h T2h S1 T1
    go_wp2
    exact bodyPost_ret (v := .tuple #[.int .i64 0, .bool false]) (res_two rfl _ _ _ _ rfl rfl) rfl (.inr ⟨HV.out, rfl, S2.out, T2.out⟩)
  | some r =>
    obtain ⟨n, name, every⟩ := r
    have hn99 := num_of hx
    cases he : every with
    | true =>
      subst he
      have HV := hide (show whoL L b word = none by unfold whoL; rw [hx]; simp)
      clear hx
      unfold nounA
      simp only
      go_wp2_with fail
      refine (rtell_any S1.out b hb _ hlen).mono ?_
      rintro e w2 ⟨rfl, S2h, T2h⟩
      have S2 := hide S2h
      have T2 := hide (T1.out.trans T2h)
      clear S2h T2h S1 T1
      go_wp2
      exact bodyPost_ret (v := .tuple #[.int .i64 0, .bool false]) (res_two rfl _ _ _ _ rfl rfl) rfl (.inr ⟨HV.out, rfl, S2.out, T2.out⟩)
    | false =>
      subst he
      have HW := hide (show whoL L b word = (nthL (seenK L b (bs name) 6) (n : Int)).head?.map Int.toNat by unfold whoL; rw [hx]; simp)
      clear hx
      unfold nounA
      simp only
      go_wp2_with fail
      refine (rseen_any S1.out b (bs name)).mono ?_
      rintro e w2 ⟨v, rfl, ho, hb2⟩
      have S2 := hide (S1.out.below hb2)
      have T2 := hide (T1.out.trans (S1.out.stp hb2 165))
      have N2 := hide (numk_own S1.out hb2 ho)
      obtain ⟨av, cap, rfl⟩ := ho.shape
      have hsl := seen_len L b (bs name) 6
      have HM := hide (fun x (hx : x ∈ seenK L b (bs name) 6) => seen_mem hx)
      clear ho hb2 S1 T1
      generalize seenK L b (bs name) 6 = q at *
      go_wp2_with fail
      refine (rnth_any N2.out (by omega) (n : Int) (by omega) (by omega)).mono ?_
      rintro e w3 ⟨v', rfl, hK, hw3⟩
      rw [hw3]
      have NK := hide hK
      obtain ⟨av3, cap3, rfl⟩ := hK.shape
      clear hK hw3 w3
      cases hh : (nthL q (n : Int)).head? with
      | none =>
        have hz : nthL q (n : Int) = [] := nth_empty hh
        have HV := hide (show whoL L b word = none by rw [HW.out, hh]; rfl)
        rw [hz]
        clear hh hz NK
        go_wp2_with fail
        refine (rtell_any S2.out b hb _ hlen).mono ?_
        rintro e w4 ⟨rfl, S4h, T4h⟩
        have S4 := hide S4h
        have T4 := hide (T2.out.trans T4h)
        clear S4h T4h S2 T2
        go_wp2
        exact bodyPost_ret (v := .tuple #[.int .i64 0, .bool false]) (res_two rfl _ _ _ _ rfl rfl) rfl (.inr ⟨HV.out, rfl, S4.out, T4.out⟩)
      | some x =>
        have hz := nth_head hh
        obtain ⟨c, ec, hc, _⟩ := HM.out x (nth_mem (n := (n : Int)) (by rw [hz]; simp))
        subst ec
        have HV := hide (show whoL L b word = some c by rw [HW.out, hh]; simp)
        have NK2 := NK.out
        rw [hz] at NK2
        obtain ⟨bq, off, cap', e, hcell⟩ := NK2.cell (k := 0) (by simp)
        rw [hz]
        injection e with e1 e2 e3
        subst e1 e3
        simp only [List.length_singleton, Nat.add_zero, List.getD_cons_zero] at hcell e2 ⊢
        clear hh hz NK NK2
        go_wp2
        exact bodyPost_ret (v := .tuple #[.int .i64 (c : Int), .bool true]) (res_two rfl _ _ _ _ rfl rfl) rfl (.inl ⟨c, HV.out, rfl, S2.out, T2.out⟩)
end Go.Proofs.YtaifjndkgfffpaaDoor
/-
  A direction's name; what a verb turns: contracts.
-/
namespace Go.Proofs.YtaifjndkgfffpaaDoor
open Go.RowKit
set_option linter.unusedVariables false

/-- Whose name that is. -/
def dirL (l : List UInt8) : Option Nat := (verbs.take 6).findIdx? (fun v => decide (v = l))
def dirA (l : List UInt8) : Int × Bool := match dirL l with | some d => ((d : Int), true) | none => (0, false)
def NoDir (l : List UInt8) (k : Nat) : Prop := ∀ j, j < k → verbs.getD j [] ≠ l

theorem take_getD (j : Nat) (hj : j < 6) : verbs.getD j [] = (verbs.take 6)[j]'(by simp [verbs_len]; omega) := by
  have hl := verbs_len
  simp [List.getD, List.getElem?_eq_getElem (show j < verbs.length by omega)]
theorem dir_at {l : List UInt8} {k : Nat} (hk : k < 6) (hn : NoDir l k) (h : verbs.getD k [] = l) : dirA l = ((k : Int), true) := by
  have : dirL l = some k := by
    unfold dirL
    rw [List.findIdx?_eq_some_iff_getElem]
    refine ⟨by simp [verbs_len]; omega, ?_, fun j hj => ?_⟩
    · rw [← take_getD k hk]; simpa using h
    · rw [← take_getD j (by omega)]; simpa using hn j hj
  simp [dirA, this]
theorem dir_none {l : List UInt8} (hn : NoDir l 6) : dirA l = (0, false) := by
  have : dirL l = none := by
    unfold dirL
    rw [List.findIdx?_eq_none_iff]
    intro v hv
    obtain ⟨j, hj, rfl⟩ := List.getElem_of_mem hv
    have hj6 : j < 6 := by simp [verbs_len] at hj; omega
    rw [← take_getD j hj6]
    simpa using hn j hj6
  simp [dirA, this]

theorem ret_dir {n m : Int} {a b : Bool} (h : (n, a) = (m, b)) : Ending.returned (.tuple #[.int .i64 n, .bool a]) = .returned (.tuple #[.int .i64 m, .bool b]) := by
  simp at h; rw [h.1, h.2]

set_option maxHeartbeats 2000000 in
set_option maxRecDepth 100000 in
theorem dir_any (s : ByteArray) (w : World) (hv : Vb w) :
    Calls Tryd.prog 61 #[.string s] w fun e w' => e = .returned (.tuple #[.int .i64 (dirA s.data.toList).1, .bool (dirA s.data.toList).2]) ∧ w' = w := by
  have hv := hide hv
  have hbt : ∀ l : List UInt8, (bs l).toList = l := fun l => by rw [Lib.toList_data, bs_data]
  go_enter Tryd.func61, Tryd.ntmps61
  go_wp2
  go_loop [5] (fun v => ∃ k : Nat, v = .int .i64 k ∧ k ≤ 6 ∧ Hid (NoDir s.data.toList k)) (fun v => 6 - (intOf v).toNat)
  case atStart => exact ⟨0, rfl, by omega, fun j hj => by omega⟩
  case round =>
    obtain ⟨k, rfl, hk, HN⟩ := hrel
    by_cases hlt : k < 6
    · have hc := hv.out.cell k (by omega)
      generalize hV : verbs.getD k [] = V at hc
      cases hp : (V == s.toList)
      · have HNN : Hid (NoDir s.data.toList (k + 1)) := fun j hj => by
          by_cases e : j = k
          · subst e; rw [hV]; intro e2; rw [Lib.toList_data, e2] at hp; simp at hp
          · exact HN.out j (by omega)
        clear hV
        go_wp2
        exact ⟨⟨k + 1, by go_num, hlt, HNN.out⟩, by simp [intOf]; omega⟩
      · have HV := hide (dir_at hlt HN.out (show verbs.getD k [] = s.data.toList by rw [hV]; rw [Lib.toList_data] at hp; simpa using hp))
        clear hV
        go_wp2
        go_ret2
        exact ⟨ret_dir HV.out.symm, rfl⟩
    · have hkk : k = 6 := by omega
      subst hkk
      have HV := hide (dir_none HN.out)
      go_wp2
      go_ret2
      exact ⟨ret_dir HV.out.symm, rfl⟩
/-- What comes of a verb that turns things. -/
structure Chg where
  kind : Int
  event : Int
  on : Bool
  behind : Bool
def Chg.cells (C : Chg) : Array Value := #[.int .i64 C.kind, .int .i64 C.event, .bool C.on, .bool C.behind]
theorem Tryd.sizeChange : (Tryd.prog.info? 101).map (·.size) = some 4 := by kernel_rfl
def turnedC (v : Int) : Chg := if v = 12 then ⟨3, 8, true, true⟩ else if v = 13 then ⟨3, 9, false, false⟩ else if v = 14 then ⟨1, 10, true, true⟩ else if v = 15 then ⟨1, 11, false, false⟩ else if v = 16 then ⟨2, 12, true, false⟩ else ⟨2, 13, false, true⟩

set_option maxRecDepth 100000 in
set_option maxHeartbeats 2000000 in
theorem turned_any (v : Int) (w : World) : Calls Tryd.prog 63 #[.int .i64 v] w fun e w' => e = .returned (.agg (turnedC v).cells) ∧ Below w.heap.size w w' := by
  by_cases h12 : v = 12
  · have HV := hide (show turnedC v = ⟨3, 8, true, true⟩ by subst h12; rfl)
    subst h12
    go_enter Tryd.func63, Tryd.ntmps63
    go_wp2
    refine bodyPost_ret (v := .agg (turnedC 12).cells) (results_cell_row rfl _ _ w.heap.size 101 (turnedC 12).cells (0, 0) _ rfl (heap_alloc_new w _) Tryd.underlying101 rfl Tryd.sizeChange) rfl ⟨rfl, (Below.refl _ _).alloc (Nat.le_refl _) _⟩
  have b12 : (v == 12) = false := by simp [h12]
  by_cases h13 : v = 13
  · have HV := hide (show turnedC v = ⟨3, 9, false, false⟩ by subst h13; rfl)
    subst h13
    go_enter Tryd.func63, Tryd.ntmps63
    go_wp2
    refine bodyPost_ret (v := .agg (turnedC 13).cells) (results_cell_row rfl _ _ w.heap.size 101 (turnedC 13).cells (0, 0) _ rfl (heap_alloc_new w _) Tryd.underlying101 rfl Tryd.sizeChange) rfl ⟨rfl, (Below.refl _ _).alloc (Nat.le_refl _) _⟩
  have b13 : (v == 13) = false := by simp [h13]
  by_cases h14 : v = 14
  · have HV := hide (show turnedC v = ⟨1, 10, true, true⟩ by subst h14; rfl)
    subst h14
    go_enter Tryd.func63, Tryd.ntmps63
    go_wp2
    refine bodyPost_ret (v := .agg (turnedC 14).cells) (results_cell_row rfl _ _ w.heap.size 101 (turnedC 14).cells (0, 0) _ rfl (heap_alloc_new w _) Tryd.underlying101 rfl Tryd.sizeChange) rfl ⟨rfl, (Below.refl _ _).alloc (Nat.le_refl _) _⟩
  have b14 : (v == 14) = false := by simp [h14]
  by_cases h15 : v = 15
  · have HV := hide (show turnedC v = ⟨1, 11, false, false⟩ by subst h15; rfl)
    subst h15
    go_enter Tryd.func63, Tryd.ntmps63
    go_wp2
    refine bodyPost_ret (v := .agg (turnedC 15).cells) (results_cell_row rfl _ _ w.heap.size 101 (turnedC 15).cells (0, 0) _ rfl (heap_alloc_new w _) Tryd.underlying101 rfl Tryd.sizeChange) rfl ⟨rfl, (Below.refl _ _).alloc (Nat.le_refl _) _⟩
  have b15 : (v == 15) = false := by simp [h15]
  by_cases h16 : v = 16
  · have HV := hide (show turnedC v = ⟨2, 12, true, false⟩ by subst h16; rfl)
    subst h16
    go_enter Tryd.func63, Tryd.ntmps63
    go_wp2
    refine bodyPost_ret (v := .agg (turnedC 16).cells) (results_cell_row rfl _ _ w.heap.size 101 (turnedC 16).cells (0, 0) _ rfl (heap_alloc_new w _) Tryd.underlying101 rfl Tryd.sizeChange) rfl ⟨rfl, (Below.refl _ _).alloc (Nat.le_refl _) _⟩
  have b16 : (v == 16) = false := by simp [h16]
  have HV := hide (show turnedC v = ⟨2, 13, false, true⟩ by unfold turnedC; rw [if_neg h12, if_neg h13, if_neg h14, if_neg h15, if_neg h16])
  clear h12 h13 h14 h15 h16
  go_enter Tryd.func63, Tryd.ntmps63
  go_wp2
  rw [HV.out]
  refine bodyPost_ret (v := .agg (Chg.cells ⟨2, 13, false, true⟩)) (results_cell_row rfl _ _ w.heap.size 101 (Chg.cells ⟨2, 13, false, true⟩) (0, 0) _ rfl (heap_alloc_new w _) Tryd.underlying101 rfl Tryd.sizeChange) rfl ⟨rfl, (Below.refl _ _).alloc (Nat.le_refl _) _⟩
end Go.Proofs.YtaifjndkgfffpaaDoor
