/-
  The contracts of Verb, alone and Called.
-/
import Derived.Test.YtfbgaimjjfmfaacDoorWdTrim
namespace Go.Proofs.YtfbgaimjjfmfaacDoor
open Go.RowKit
set_option linter.unusedVariables false

theorem Tryd.sizeVerbs : (Tryd.prog.info? 42).map (·.size) = some 21 := by kernel_rfl

/-- All verbs are read. -/
theorem wl_verbs {ops : Array Oper} {rest : List Oper} {op : Oper} {a : Act} {w : World} {Q : Exit → Act → World → Prop} (x : Operand) (ho : op.op = .load 42 x) (hw : Region.wanted op (yielded ops a.tmps) = true)
    (hx : a.eval x = .pointer (some ⟨1, 0, none⟩)) (hv : Vb w) (h : wpList Tryd.prog ops Q rest (a.put op.dst (.agg vcells)) w) : wpList Tryd.prog ops Q (op :: rest) a w := by
  obtain ⟨t, fr, hv⟩ := hv
  exact wl_wanted hw (wp_load_row 42 x ho 1 hx t vcells fr _ hv Tryd.underlying42 rfl (by rw [vcells_size]; exact Tryd.sizeVerbs) h)

theorem index_verbs (i : Nat) (hi : i < 21) (w : World) : (Instr.index 42 (.agg vcells) (.int .i64 (i : Int))).run Tryd.prog w = .ok (.string (bs (verbs.getD i []))) w := by
  rcases (show i = 0 ∨ i = 1 ∨ i = 2 ∨ i = 3 ∨ i = 4 ∨ i = 5 ∨ i = 6 ∨ i = 7 ∨ i = 8 ∨ i = 9 ∨ i = 10 ∨ i = 11 ∨ i = 12 ∨ i = 13 ∨ i = 14 ∨ i = 15 ∨ i = 16 ∨ i = 17 ∨ i = 18 ∨ i = 19 ∨ i = 20 by omega) with rfl | rfl | rfl | rfl | rfl | rfl | rfl | rfl | rfl | rfl | rfl | rfl | rfl | rfl | rfl | rfl | rfl | rfl | rfl | rfl | rfl
  all_goals kernel_rfl

/-- No verb ahead of k begins with the word. -/
def NoVerb (w : List UInt8) (k : Nat) : Prop := ∀ j, j < k → w.isPrefixOf (verbs.getD j []) = false

theorem verb_at {w : List UInt8} {k : Nat} (hw : w ≠ []) (hk : k < 21) (hn : NoVerb w k) (h : w.isPrefixOf (verbs.getD k []) = true) : verbA w = ((k : Int), 0) := by
  have hl := verbs_len
  have : verbL w = some k := by
    unfold verbL
    rw [if_neg hw, List.findIdx?_eq_some_iff_getElem]
    refine ⟨by omega, ?_, fun j hj => ?_⟩
    · have e : verbs.getD k [] = verbs[k]'(by omega) := by simp [List.getD, List.getElem?_eq_getElem (show k < verbs.length by omega)]
      rw [← e]; exact h
    · have e : verbs.getD j [] = verbs[j]'(by omega) := by simp [List.getD, List.getElem?_eq_getElem (show j < verbs.length by omega)]
      rw [← e, hn j hj]; simp
  simp [verbA, this]
theorem verb_none {w : List UInt8} (hw : w ≠ []) (hn : NoVerb w 21) : verbA w = (0, 3) := by
  have hl := verbs_len
  have : verbL w = none := by
    unfold verbL
    rw [if_neg hw, List.findIdx?_eq_none_iff]
    intro v hv
    obtain ⟨j, hj, rfl⟩ := List.getElem_of_mem hv
    have e : verbs.getD j [] = verbs[j]'(by omega) := by simp [List.getD, List.getElem?_eq_getElem (show j < verbs.length by omega)]
    rw [← e]; exact hn j (by omega)
  simp [verbA, this]
theorem verb_empty : verbA [] = (0, 3) := rfl

set_option maxHeartbeats 2000000 in
set_option maxRecDepth 100000 in
theorem verb_any (s : ByteArray) (w : World) (hv : Vb w) :
    Calls Tryd.prog 11 #[.string s] w fun e w' => e = .returned (.tuple #[.int .i64 (verbA s.data.toList).1, .int .i64 (verbA s.data.toList).2]) ∧ w' = w := by
  cases h0 : s.toList.isEmpty
  · have hne : Hid (s.data.toList ≠ []) := fun e => by rw [Lib.toList_data, e] at h0; simp at h0
    have hv := hide hv
    go_enter Tryd.func11, Tryd.ntmps11
    go_wp2_with (refine wl_verbs _ rfl rfl rfl hv.out ?_)
    go_loop [9] (fun v => ∃ k : Nat, v = .int .i64 k ∧ k ≤ 21 ∧ Hid (NoVerb s.data.toList k)) (fun v => 21 - (intOf v).toNat)
    case atStart => exact ⟨0, rfl, by omega, fun j hj => by omega⟩
    case round =>
      obtain ⟨k, rfl, hk, HN⟩ := hrel
      by_cases hlt : k < 21
      · have hi := index_verbs k hlt
        have C1 := hide (prefix_any (bs (verbs.getD k [])) s)
        rw [bs_data] at C1
        cases hp : s.data.toList.isPrefixOf (verbs.getD k [])
        · have hp := hide hp
          go_wp2_with fail
          refine (C1.out _).mono ?_
          rintro e w' ⟨rfl, rfl⟩
          rw [hp.out]
          go_wp2
          refine ⟨⟨k + 1, by go_num, hlt, fun j hj => ?_⟩, by simp [intOf]; omega⟩
          by_cases e : j = k
          · subst e; exact hp.out
          · exact HN.out j (by omega)
        · have HV := hide (verb_at hne.out hlt HN.out hp)
          have hp := hide hp
          go_wp2_with fail
          refine (C1.out _).mono ?_
          rintro e w' ⟨rfl, rfl⟩
          rw [hp.out]
          go_wp2
          go_ret2
          rw [HV.out]
          exact ⟨rfl, rfl⟩
      · have hkk : k = 21 := by omega
        subst hkk
        have HV := hide (verb_none hne.out HN.out)
        go_wp2
        go_ret2
        rw [HV.out]
        exact ⟨rfl, rfl⟩
  · have HE := hide (show s.data.toList = [] by rw [Lib.toList_data] at h0; exact List.isEmpty_iff.1 h0)
    go_enter Tryd.func11, Tryd.ntmps11
    go_wp2
    go_ret2
    rw [HE.out]
    exact ⟨rfl, rfl⟩

theorem alone_any (v : Nat) (w : World) (hv : v < 21) : Calls Tryd.prog 20 #[.int .i64 (v : Int)] w fun e w' => e = .returned (.bool (aloneB v)) ∧ w' = w := by
  have HV : Hid (∀ b : Bool, (b = true ↔ ((v : Int) < 6 ∨ (v : Int) = 6 ∨ (v : Int) = 19 ∨ (v : Int) = 20)) → b = aloneB v) := by
    intro b hb
    rw [Bool.eq_iff_iff, hb]
    simp [aloneB]; omega
  go_enter Tryd.func20, Tryd.ntmps20
  go_wp2
  all_goals go_ret
  all_goals refine ⟨ret_bool (HV.out _ ?_), rfl⟩
  all_goals first | (simp_all; done) | (simp_all; omega)

def calledI (d : Int) : List UInt8 := if 0 ≤ d then calledL d.toNat else []
theorem calledI_nat (k : Nat) : calledI k = calledL k := by simp [calledI]

set_option maxHeartbeats 1000000 in
theorem called_any (d : Int) (w : World) (hv : Vb w) : Calls Tryd.prog 17 #[.int .i64 d] w fun e w' => e = .returned (.string (bs (calledI d))) ∧ w' = w := by
  by_cases h0 : 0 ≤ d
  · obtain ⟨k, rfl⟩ : ∃ k : Nat, d = k := ⟨d.toNat, by omega⟩
    by_cases h6 : k < 6
    · have hc := hv.cell k (by omega)
      have HV := hide (show calledI (k : Int) = verbs.getD k [] by simp [calledI, calledL, h6])
      clear hv
      go_enter Tryd.func17, Tryd.ntmps17
      go_wp2
      go_ret
      exact ⟨ret_str (by rw [HV.out]; simp), rfl⟩
    · have HV := hide (show calledI (k : Int) = [] by simp [calledI, calledL, h6])
      clear hv
      go_enter Tryd.func17, Tryd.ntmps17
      go_wp2
      go_ret
      exact ⟨ret_str (by rw [HV.out]; rfl), rfl⟩
  · have HV := hide (show calledI d = [] by simp [calledI, h0])
    clear hv
    go_enter Tryd.func17, Tryd.ntmps17
    go_wp2
    go_ret
    exact ⟨ret_str (by rw [HV.out]; rfl), rfl⟩
end Go.Proofs.YtfbgaimjjfmfaacDoor
