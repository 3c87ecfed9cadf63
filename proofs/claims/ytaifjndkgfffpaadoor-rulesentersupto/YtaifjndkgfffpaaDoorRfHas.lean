/-
  The document's own turn: where it is, what it has, what lies in its sight; telling: contracts.
-/
import Derived.Test.YtaifjndkgfffpaaDoorRuTadd
import Derived.Test.YtaifjndkgfffpaaDoorMgE
namespace Go.Proofs.YtaifjndkgfffpaaDoor
open Go.RowKit
set_option linter.unusedVariables false

set_option maxRecDepth 100000 in
set_option maxHeartbeats 1000000 in
theorem hasat_own (L : Ld) (wh loc : Int) (w : World) :
    Calls Tryd.prog 82 #[.agg L.cells, .int .i64 wh, .int .i64 loc] w fun e w' => ∃ v, e = .returned v ∧ w'.ownsRow (w.heap.size + 1) 3 1 v (hasK L wh loc 9).length (icells (hasK L wh loc 9)) ∧ Below w.heap.size w w' := by
  obtain ⟨i0, hi0, hz0, hz1, hz2⟩ := info_parts Tryd.info3
  go_enter Tryd.func82, Tryd.ntmps82
  go_wp2_with fail
  go_loopw [7, 9] (fun v c wr => ∃ k : Nat, k ≤ 9 ∧ c = .int .i64 k ∧ HRel L w v (hasK L wh loc k) wr) (fun _ c _ => 9 - (intOf c).toNat)
  case atStart => exact ⟨0, by omega, rfl, World.ownsRow_nil _ _ _ _, gd_start L w, by simp⟩
  case round =>
    obtain ⟨k, hle, rfl, R⟩ := hrel
    obtain ⟨av, cap, rfl⟩ := own_shapeN R.own
    have HR := hide R
    clear R
    by_cases hk : k < 9
    · have hki : (k : Int) < 9 := by omega
      have c2 := HR.out.gd.cod.thing k 2 hk (by omega)
      have c3 := HR.out.gd.cod.thing k 3 hk (by omega)
      simp only [Ld.thingCell] at c2 c3
      cases h2 : decide (L.loc k = loc) with
      | false =>
        have e2 : (L.loc k == loc) = false := by simpa using h2
        have HN := hide (hasK_no (L := L) (wh := wh) (loc := loc) (k := k) (by simp [isAt, h2]))
        clear h2
        go_wp2
        go_roundw
        case rel => exact ⟨k + 1, by omega, by go_num, by rw [HN.out]; exact HR.out⟩
        case measure => simp [intOf]; omega
      | true =>
        have e2 : (L.loc k == loc) = true := by simpa using h2
        cases h1 : decide (L.wh k = wh) with
        | false =>
          have e1 : (L.wh k == wh) = false := by simpa using h1
          have HN := hide (hasK_no (L := L) (wh := wh) (loc := loc) (k := k) (by simp [isAt, h1]))
          clear h1 h2
          go_wp2
          go_roundw
          case rel => exact ⟨k + 1, by omega, by go_num, by rw [HN.out]; exact HR.out⟩
          case measure => simp [intOf]; omega
        | true =>
          have e1 : (L.wh k == wh) = true := by simpa using h1
          have HN := hide (hasK_yes (L := L) (wh := wh) (loc := loc) (k := k) (by simp [isAt, h1, h2]))
          have hlen := hasK_len L wh loc k
          have hsz := HR.out.size
          clear h1 h2
          generalize hasK L wh loc k = S at *
          go_wp2_with (at_builtin; refine wpList_append_own_at _ rfl (.tmp 28) (.tmp 30) 71 rfl (w.heap.size + 1) 3 i0 (.int .i64 0) 1 8 Tryd.underlying71 hi0 hz0 hz1 hz2 rfl (by decide) _ S.length (icells S) rfl (HR.out.own.alloc _) ⟨wr.heap.size, 0, none⟩ 1 1 [.int .i64 (k : Int)] rfl ?a1 ?a2 ?a3 ?a4 ?a5 ?a6 ?_)
          case a1 => rfl
          case a2 => exact cell_one_new _ _ _
          case a3 => intro u hu; simp at hu; subst hu; rfl
          case a4 => unfold maxLen; omega
          case a5 => omega
          case a6 => simp; omega
          intro v' w1 ho hg _ _
          have N := hide ((HR.out.box _).next ho hg)
          obtain ⟨av', cap', rfl⟩ := own_shapeN ho
          clear ho hg
          go_wp2
          go_roundw
          case rel => exact ⟨k + 1, by omega, by go_num, by rw [HN.out]; exact N.out⟩
          case measure => simp [intOf]; omega
    · have hk9 : k = 9 := by omega
      subst hk9
      go_wp2
      go_ret
      exact ⟨_, rfl, HR.out.own, HR.out.gd.low⟩

section
variable {w0 : World} {L : Ld} {Es : List Ev} {w : World} {b : Nat}
set_option maxHeartbeats 1000000 in
theorem there_any (hS : Sn 66 [.int .i64 (b : Int)] w0 L Es w) (hb : b < 6) :
    Calls Tryd.prog 47 #[.pointer (some ⟨w0.heap.size, 0, none⟩)] w fun e w' => e = .returned (.int .i64 (L.room b)) ∧ ∃ n, w' = w.drewN n := by
  have c3 := hS.being b 3 hb (by omega)
  have cb : w.cell? ⟨w0.heap.size, 165, none⟩ = some (.int .i64 (b : Int)) := hS.fore 0 (by simp)
  have hbi : (b : Int) < 6 := by omega
  simp only [Ld.beingCell] at c3
  clear hS
  go_enter Tryd.func47, Tryd.ntmps47
  go_wp2_with fail
  go_quiet (fail)
  go_wp2
  go_ret
  exact ⟨rfl, _, rfl⟩
set_option maxHeartbeats 1000000 in
theorem ttell_any (hS : Sn 66 [.int .i64 (b : Int)] w0 L Es w) (hb : b < 6) (text : ByteArray) (hlen : Es.length ≤ 1000000) :
    Calls Tryd.prog 48 #[.pointer (some ⟨w0.heap.size, 0, none⟩), .string text] w fun e w' => e = .returned (.tuple #[]) ∧ Sn 66 [.int .i64 (b : Int)] w0 L (Es ++ [tellE L b text]) w' ∧ Stp w0.heap.size 166 w w' := by
  go_enter Tryd.func48, Tryd.ntmps48
  go_wp2_with fail
  refine (tadd_none hS hb 16 0 0 ⟨#[]⟩ text hlen).mono ?_
  rintro e w1 ⟨rfl, S1, T1⟩
  have A := hide S1
  have B := hide T1
  clear S1 T1
  go_wp2
  go_end0
  exact ⟨rfl, A.out, B.out⟩
end
end Go.Proofs.YtaifjndkgfffpaaDoor
