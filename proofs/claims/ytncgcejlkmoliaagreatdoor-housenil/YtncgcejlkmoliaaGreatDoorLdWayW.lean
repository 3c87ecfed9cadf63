/-
  The way out of box after box: its contract.
-/
import Derived.Test.YtncgcejlkmoliaaGreatDoorLdWay
namespace Go.Proofs.YtncgcejlkmoliaaGreatDoor
open Go.RowKit
set_option linter.unusedVariables false

set_option maxRecDepth 100000 in
set_option maxHeartbeats 1000000 in
theorem way_any (L : Ld) (j : Int) (w : World) :
    Calls Tryz.prog 71 #[.agg L.cells, .int .i64 j] w fun e w' => ∃ v, e = .returned v ∧ Nums w' v (wayL L j) ∧ Below w.heap.size w w' := by
  obtain ⟨i0, hi0, hz0, hz1, hz2⟩ := info_parts Tryz.info3
  go_enter Tryz.func71, Tryz.ntmps71
  go_wp2
  go_loopw [1, 5] (fun iv v wr => ∃ (i : Int) (S : List Int), iv = .int .i64 i ∧ WRel L w j i v S wr) (fun _ v _ => 10 - lenOf v)
  case atStart => exact ⟨j, [], rfl, World.ownsRow_nil _ _ _ _, cod_new w L, (Below.refl _ _).alloc (Nat.le_refl _) _, by simp, ⟨List.nodup_nil, fun s h => by simp at h⟩, by simp, rfl⟩
  case round =>
    obtain ⟨i, S, rfl, R⟩ := hrel
    obtain ⟨av, cap, rfl⟩ := own_shapeN R.own
    have HR := hide R
    clear R
    go_wp2_with fail
    refine (among_any i 9 _).mono ?_
    rintro e w1 ⟨rfl, hw⟩
    rw [hw]
    clear hw w1
    cases ha : amg i 9 with
    | false =>
      have HA := hide ha
      clear ha
      go_wp2
      go_ret
      exact ⟨_, rfl, by rw [← HR.out.out (.inl HA.out)]; exact nums_own HR.out.own, HR.out.low⟩
    | true =>
      have HA := hide ha
      obtain ⟨h0, h9⟩ := amg_pos ha
      clear ha
      obtain ⟨k, rfl⟩ := Int.eq_ofNat_of_zero_le h0
      by_cases hm : ((k : Int)) ∈ S
      · have HM := hide hm
        clear hm
        go_wp2_with fail
        refine (contains_any _ S _ _ (nums_own HR.out.own)).mono ?_
        rintro e w1 ⟨rfl, hw⟩
        rw [hw, decide_eq_true HM.out]
        clear hw w1
        go_wp2
        go_ret
        exact ⟨_, rfl, by rw [← HR.out.out (.inr HM.out)]; exact nums_own HR.out.own, HR.out.low⟩
      · have HM := hide hm
        clear hm
        go_wp2_with fail
        refine (contains_any _ S _ _ (nums_own HR.out.own)).mono ?_
        rintro e w1 ⟨rfl, hw⟩
        rw [hw, decide_eq_false HM.out]
        clear hw w1
        have hlen := HR.out.len
        have hsz := HR.out.size
        go_wp2_with (at_builtin; refine wpList_append_own_at _ rfl (.tmp 14) (.tmp 16) 116 rfl (w.heap.size + 1) 3 i0 (.int .i64 0) 1 8 Tryz.underlying116 hi0 hz0 hz1 hz2 rfl (by decide) _ S.length (icells S) rfl (HR.out.own.alloc _) ⟨wr.heap.size, 0, none⟩ 1 1 [.int .i64 (k : Int)] rfl ?a1 ?a2 ?a3 ?a4 ?a5 ?a6 ?_)
        case a1 => rfl
        case a2 =>
          intro j u hj
          match j, hj with
          | 0, hj => simp at hj; subst hj; simp [Addr.add]
        case a3 => intro u hu; simp at hu; subst hu; rfl
        case a4 => unfold maxLen; omega
        case a5 => omega
        case a6 => simp; omega
        intro v' w1 ho hg _ _
        have N := HR.out.next HA.out HM.out ho hg
        obtain ⟨av', cap', rfl⟩ := own_shapeN ho
        clear ho hg
        obtain ⟨N1, N2, N3, N4, N5, N6⟩ := N
        simp only [Int.toNat_natCast] at N1 N2
        have c2 : w1.cell? ⟨w.heap.size, 84 + k * 5 + 2, none⟩ = some (.int .i64 (L.wh k)) := N5.thing k 2 (by omega) (by omega)
        have c3 : w1.cell? ⟨w.heap.size, 84 + k * 5 + 3, none⟩ = some (.int .i64 (L.loc k)) := N5.thing k 3 (by omega) (by omega)
        replace N1 := hide N1
        replace N2 := hide N2
        replace N3 := hide N3
        replace N4 := hide N4
        replace N5 := hide N5
        replace N6 := hide N6
        by_cases h2 : L.wh k = 2
        · have H2 := hide h2
          have h2' : (L.wh k != 2) = false := by simp [h2]
          clear h2
          go_wp2
          go_roundw
          case rel => exact ⟨_, _, rfl, N1.out H2.out⟩
          case measure => simp [lenOf]; omega
        · have H2 := hide h2
          have h2' : (L.wh k != 2) = true := by simp [h2]
          clear h2
          go_wp2
          go_ret
          exact ⟨_, rfl, by rw [← N2.out H2.out]; exact N3.out, N4.out⟩
end Go.Proofs.YtncgcejlkmoliaaGreatDoor
