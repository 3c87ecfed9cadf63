/-
  The contracts of Direction, and of the document's own VerbOf, DirectionOf and CalledOf.
-/
import Derived.Test.YtfbgaimjjfmfaacDoorWdVerb
namespace Go.Proofs.YtfbgaimjjfmfaacDoor
open Go.RowKit
set_option linter.unusedVariables false

/-- The document's verbs lie where they were laid. -/
def Vr (w : World) : Prop := ∃ t fr, w.heap[(0 : Nat)]? = some (.cells vcells t fr)
theorem Vr.lt {w : World} (h : Vr w) : 0 < w.heap.size := by
  obtain ⟨t, fr, h⟩ := h; exact (Array.getElem?_eq_some_iff.1 h).1
theorem Vr.below {w w' : World} {B : Nat} (h : Vr w) (hb : Below B w w') (hB : w.heap.size ≤ B) : Vr w' := by
  have hlt := h.lt
  obtain ⟨t, fr, h⟩ := h
  exact ⟨t, fr, by rw [hb.block _ (by omega)]; exact h⟩
theorem Vr.cell {w : World} (h : Vr w) (i : Nat) (hi : i < 21) : w.cell? ⟨0, i, none⟩ = some (.string (bs (verbs.getD i []))) := by
  obtain ⟨t, fr, h⟩ := h
  simp only [World.cell?, h]
  exact vcells_get i hi

theorem wl_verbs2 {ops : Array Oper} {rest : List Oper} {op : Oper} {a : Act} {w : World} {Q : Exit → Act → World → Prop} (x : Operand) (ho : op.op = .load 42 x) (hw : Region.wanted op (yielded ops a.tmps) = true)
    (hx : a.eval x = .pointer (some ⟨0, 0, none⟩)) (hv : Vr w) (h : wpList Tryd.prog ops Q rest (a.put op.dst (.agg vcells)) w) : wpList Tryd.prog ops Q (op :: rest) a w := by
  obtain ⟨t, fr, hv⟩ := hv
  exact wl_wanted hw (wp_load_row 42 x ho 0 hx t vcells fr _ hv Tryd.underlying42 rfl (by rw [vcells_size]; exact Tryd.sizeVerbs) h)

theorem pre_false {p l : List UInt8} (h : p.isPrefixOf l = false) (hle : p.length ≤ l.length) : (l.take p.length == p) = false := by
  have e := Lib.hasPrefix_of_take l p
  unfold Lib.hasPrefix at e
  rw [h, decide_eq_true hle, Bool.true_and] at e
  exact e
theorem pre_true {p l : List UInt8} (h : p.isPrefixOf l = true) : p.length ≤ l.length ∧ (l.take p.length == p) = true := by
  have e := Lib.hasPrefix_of_take l p
  unfold Lib.hasPrefix at e
  rw [h, Bool.and_eq_true, decide_eq_true_eq] at e
  exact e

theorem ext_toList (v : List UInt8) (n : Nat) : ((bs v).extract 0 n).toList = v.take n := by
  rw [Lib.extract_toList, bs_data]; simp

set_option maxHeartbeats 4000000 in
set_option maxRecDepth 100000 in
theorem verbof_any (s : ByteArray) (w : World) (hs : s.size ≤ 140737488355328) (hv : Vr w) :
    Calls Tryd.prog 12 #[.string s] w fun e w' => e = .returned (.tuple #[.int .i64 (verbA s.data.toList).1, .int .i64 (verbA s.data.toList).2]) ∧ w' = w := by
  have hv := hide hv
  have hl := size_len s
  have hex := ext_toList
  cases h0 : s.toList.isEmpty
  · have hne : Hid (s.data.toList ≠ []) := fun e => by rw [Lib.toList_data, e] at h0; simp at h0
    go_enter Tryd.func12, Tryd.ntmps12
    go_wp2_with (refine wl_verbs2 _ rfl rfl rfl hv.out ?_)
    go_loop [7] (fun v => ∃ k : Nat, v = .int .i64 k ∧ k ≤ 21 ∧ Hid (NoVerb s.data.toList k)) (fun v => 21 - (intOf v).toNat)
    case atStart => exact ⟨0, rfl, by omega, fun j hj => by omega⟩
    case round =>
      obtain ⟨k, rfl, hk, HN⟩ := hrel
      by_cases hlt : k < 21
      · have hi := index_verbs k hlt
        generalize hV : verbs.getD k [] = V at hi
        have hsz : (bs V).size = V.length := bs_size V
        cases hp : s.data.toList.isPrefixOf V
        · have HNN : Hid (NoVerb s.data.toList (k + 1)) := fun j hj => by
            by_cases e : j = k
            · subst e; rw [hV]; exact hp
            · exact HN.out j (by omega)
          by_cases hle : s.size ≤ V.length
          · have hq : (V.take s.size == s.toList) = false := by
              have := pre_false hp (by omega)
              rw [hl] at this; rw [Lib.toList_data]; exact this
            clear hp hV hl
            go_wp2
            exact ⟨⟨k + 1, by go_num, hlt, HNN.out⟩, by simp [intOf]; omega⟩
          · clear hp hV hl
            go_wp2
            exact ⟨⟨k + 1, by go_num, hlt, HNN.out⟩, by simp [intOf]; omega⟩
        · have HV := hide (verb_at hne.out hlt HN.out (by rw [hV]; exact hp))
          obtain ⟨hle, hq⟩ := pre_true hp
          rw [hl] at hle hq
          have hq' : (V.take s.size == s.toList) = true := by rw [Lib.toList_data]; exact hq
          clear hp hq hV hl
          go_wp2
          go_ret2
          rw [HV.out]
          exact ⟨rfl, rfl⟩
      · have hkk : k = 21 := by omega
        subst hkk
        have HV := hide (verb_none hne.out HN.out)
        clear hl
        go_wp2
        go_ret2
        rw [HV.out]
        exact ⟨rfl, rfl⟩
  · have HE := hide (show s.data.toList = [] by rw [Lib.toList_data] at h0; exact List.isEmpty_iff.1 h0)
    go_enter Tryd.func12, Tryd.ntmps12
    go_wp2_with (refine wl_verbs2 _ rfl rfl rfl hv.out ?_)
    go_loop [7] (fun v => ∃ k : Nat, v = .int .i64 k ∧ k ≤ 21) (fun v => 21 - (intOf v).toNat)
    case atStart => exact ⟨0, rfl, by omega⟩
    case round =>
      obtain ⟨k, rfl, hk⟩ := hrel
      by_cases hlt : k < 21
      · have hi := index_verbs k hlt
        generalize verbs.getD k [] = V at hi
        clear hl
        go_wp2
        exact ⟨⟨k + 1, by go_num, hlt⟩, by simp [intOf]; omega⟩
      · have hkk : k = 21 := by omega
        subst hkk
        clear hl
        go_wp2
        go_ret2
        rw [HE.out]
        exact ⟨rfl, rfl⟩

/-- Whose name that is. -/
def dirL (l : List UInt8) : Option Nat := (verbs.take 6).findIdx? (fun v => decide (v = l))
def dirA (l : List UInt8) : Int × Bool := match dirL l with | some d => ((d : Int), true) | none => (0, false)
def NoDir (l : List UInt8) (k : Nat) : Prop := ∀ j, j < k → verbs.getD j [] ≠ l

theorem take_getD (j : Nat) (hj : j < 6) : verbs.getD j [] = (verbs.take 6)[j]'(by simp [verbs_len]; omega) := by
  have hl := verbs_len
  simp [List.getD, List.getElem?_eq_getElem (show j < verbs.length by omega)]
theorem dir_at {l : List UInt8} {k : Nat} (hk : k < 6) (hn : NoDir l k) (h : verbs.getD k [] = l) : dirA l = ((k : Int), true) := by
  have : dirL l = some k := by
    unfold dirL
    rw [List.findIdx?_eq_some_iff_getElem]
    refine ⟨by simp [verbs_len]; omega, ?_, fun j hj => ?_⟩
    · rw [← take_getD k hk]; simpa using h
    · rw [← take_getD j (by omega)]; simpa using hn j hj
  simp [dirA, this]
theorem dir_none {l : List UInt8} (hn : NoDir l 6) : dirA l = (0, false) := by
  have : dirL l = none := by
    unfold dirL
    rw [List.findIdx?_eq_none_iff]
    intro v hv
    obtain ⟨j, hj, rfl⟩ := List.getElem_of_mem hv
    have hj6 : j < 6 := by simp [verbs_len] at hj; omega
    rw [← take_getD j hj6]
    simpa using hn j hj6
  simp [dirA, this]

theorem ret_dir {n m : Int} {a b : Bool} (h : (n, a) = (m, b)) : Ending.returned (.tuple #[.int .i64 n, .bool a]) = .returned (.tuple #[.int .i64 m, .bool b]) := by
  simp at h; rw [h.1, h.2]

set_option maxHeartbeats 2000000 in
set_option maxRecDepth 100000 in
theorem dir_any (s : ByteArray) (w : World) (hv : Vb w) :
    Calls Tryd.prog 15 #[.string s] w fun e w' => e = .returned (.tuple #[.int .i64 (dirA s.data.toList).1, .bool (dirA s.data.toList).2]) ∧ w' = w := by
  have hv := hide hv
  have hbt : ∀ l : List UInt8, (bs l).toList = l := fun l => by rw [Lib.toList_data, bs_data]
  go_enter Tryd.func15, Tryd.ntmps15
  go_wp2
  go_loop [5] (fun v => ∃ k : Nat, v = .int .i64 k ∧ k ≤ 6 ∧ Hid (NoDir s.data.toList k)) (fun v => 6 - (intOf v).toNat)
  case atStart => exact ⟨0, rfl, by omega, fun j hj => by omega⟩
  case round =>
    obtain ⟨k, rfl, hk, HN⟩ := hrel
    by_cases hlt : k < 6
    · have hc := hv.out.cell k (by omega)
      generalize hV : verbs.getD k [] = V at hc
      cases hp : (V == s.toList)
      · have HNN : Hid (NoDir s.data.toList (k + 1)) := fun j hj => by
          by_cases e : j = k
          · subst e; rw [hV]; intro e2; rw [Lib.toList_data, e2] at hp; simp at hp
          · exact HN.out j (by omega)
        clear hV
        go_wp2
        exact ⟨⟨k + 1, by go_num, hlt, HNN.out⟩, by simp [intOf]; omega⟩
      · have HV := hide (dir_at hlt HN.out (show verbs.getD k [] = s.data.toList by rw [hV]; rw [Lib.toList_data] at hp; simpa using hp))
        clear hV
        go_wp2
        go_ret2
        exact ⟨ret_dir HV.out.symm, rfl⟩
    · have hkk : k = 6 := by omega
      subst hkk
      have HV := hide (dir_none HN.out)
      go_wp2
      go_ret2
      exact ⟨ret_dir HV.out.symm, rfl⟩

set_option maxHeartbeats 2000000 in
set_option maxRecDepth 100000 in
theorem dirof_any (s : ByteArray) (w : World) (hv : Vr w) :
    Calls Tryd.prog 16 #[.string s] w fun e w' => e = .returned (.tuple #[.int .i64 (dirA s.data.toList).1, .bool (dirA s.data.toList).2]) ∧ w' = w := by
  have hv := hide hv
  have hbt : ∀ l : List UInt8, (bs l).toList = l := fun l => by rw [Lib.toList_data, bs_data]
  go_enter Tryd.func16, Tryd.ntmps16
  go_wp2
  go_loop [5] (fun v => ∃ k : Nat, v = .int .i64 k ∧ k ≤ 6 ∧ Hid (NoDir s.data.toList k)) (fun v => 6 - (intOf v).toNat)
  case atStart => exact ⟨0, rfl, by omega, fun j hj => by omega⟩
  case round =>
    obtain ⟨k, rfl, hk, HN⟩ := hrel
    by_cases hlt : k < 6
    · have hc := hv.out.cell k (by omega)
      generalize hV : verbs.getD k [] = V at hc
      cases hp : (s.toList == V)
      · have HNN : Hid (NoDir s.data.toList (k + 1)) := fun j hj => by
          by_cases e : j = k
          · subst e; rw [hV]; intro e2; rw [Lib.toList_data, e2] at hp; simp at hp
          · exact HN.out j (by omega)
        clear hV
        go_wp2
        exact ⟨⟨k + 1, by go_num, hlt, HNN.out⟩, by simp [intOf]; omega⟩
      · have HV := hide (dir_at hlt HN.out (show verbs.getD k [] = s.data.toList by rw [hV]; rw [Lib.toList_data] at hp; simpa using (beq_iff_eq.1 hp).symm))
        clear hV
        go_wp2
        go_ret2
        exact ⟨ret_dir HV.out.symm, rfl⟩
    · have hkk : k = 6 := by omega
      subst hkk
      have HV := hide (dir_none HN.out)
      go_wp2
      go_ret2
      exact ⟨ret_dir HV.out.symm, rfl⟩

set_option maxHeartbeats 1000000 in
theorem calledof_any (d : Int) (w : World) (hv : Vr w) : Calls Tryd.prog 18 #[.int .i64 d] w fun e w' => e = .returned (.string (bs (calledI d))) ∧ w' = w := by
  by_cases h0 : 0 ≤ d
  · obtain ⟨k, rfl⟩ : ∃ k : Nat, d = k := ⟨d.toNat, by omega⟩
    by_cases h6 : k < 6
    · have hc := hv.cell k (by omega)
      have HV := hide (show calledI (k : Int) = verbs.getD k [] by simp [calledI, calledL, h6])
      clear hv
      go_enter Tryd.func18, Tryd.ntmps18
      go_wp2
      go_ret
      exact ⟨ret_str (by rw [HV.out]; simp), rfl⟩
    · have HV := hide (show calledI (k : Int) = [] by simp [calledI, calledL, h6])
      clear hv
      go_enter Tryd.func18, Tryd.ntmps18
      go_wp2
      go_ret
      exact ⟨ret_str (by rw [HV.out]; rfl), rfl⟩
  · have HV := hide (show calledI d = [] by simp [calledI, h0])
    clear hv
    go_enter Tryd.func18, Tryd.ntmps18
    go_wp2
    go_ret
    exact ⟨ret_str (by rw [HV.out]; rfl), rfl⟩
end Go.Proofs.YtfbgaimjjfmfaacDoor
