/-
  Room: its contract.
-/
import Derived.Test.YtaifjndkgfffpaaDoorMgAF
namespace Go.Proofs.YtaifjndkgfffpaaDoor
open Go.RowKit
set_option linter.unusedVariables false

/-- Whether all boxes about a thing are open. -/
def openW (L : Ld) (i : Int) : Bool := ((wayL L i).drop 1).all fun b => L.on b.toNat

/-- The room that a thing is in at last, and whether nothing shut is about it. -/
def roomL (L : Ld) (i : Int) : Int × Bool :=
  if wayL L i = [] then (-1, false)
  else if L.wh (lastW L i) = 0 then (L.loc (lastW L i), openW L i)
  else if L.wh (lastW L i) = 1 ∧ amg (L.loc (lastW L i)) 6 = true then (L.room (L.loc (lastW L i)).toNat, openW L i)
  else (-1, false)

set_option maxRecDepth 100000 in
set_option maxHeartbeats 1000000 in
theorem room_none (L : Ld) (i : Int) (w : World) (hi : amg i 9 = false) :
    Calls Tryd.prog 97 #[.agg L.cells, .int .i64 i] w fun e w' => e = .returned (.tuple #[.int .i64 (roomL L i).1, .bool (roomL L i).2]) ∧ Below w.heap.size w w' := by
  have hq : wayL L i = [] := wayL_nil L hi
  have hr : roomL L i = (-1, false) := by unfold roomL; rw [if_pos hq]
  rw [hr]
  have HQ := hide hq
  clear hi hq hr
  go_enter Tryd.func97, Tryd.ntmps97
  go_wp2_with (refine wl_land (.tmp 2) rfl rfl _ L rfl (cod_new w L) ?_)
  refine (way_any L i _).mono ?_
  rintro e w1 ⟨v, rfl, hn, hb⟩
  have hb' : Below w.heap.size w w1 := ((Below.refl _ _).alloc (Nat.le_refl _) _).trans (hb.mono (by simp))
  rw [HQ.out] at hn
  obtain ⟨av, cap, rfl, _, _, _⟩ := hn
  simp only [List.length_nil]
  clear hb
  go_wp2
  go_ret2
  exact ⟨rfl, hb'⟩

theorem all_step {q : List Int} {m j : Nat} (hw : WIn q) (hq : q.length = m + 1) (hj : j < m) :
    ∃ x : Nat, x < 9 ∧ (q.getD (j + 1) 0 = (x : Int) ∧ ∀ f : Int → Bool, ((q.drop 1).take (j + 1)).all f = (((q.drop 1).take j).all f && f (x : Int))) := by
  have h := hw.inn _ (getD_mem (q := q) (k := j + 1) (by omega))
  refine ⟨(q.getD (j + 1) 0).toNat, by omega, by omega, fun f => ?_⟩
  have e : ((q.getD (j + 1) 0).toNat : Int) = q.getD (j + 1) 0 := by omega
  rw [e]
  rw [List.take_succ_eq_append_getElem (by simp; omega), List.all_append]
  have e2 : q.getD (j + 1) 0 = q[j + 1] := by simp [hq, hj]
  rw [e2]
  simp

set_option maxRecDepth 100000 in
set_option maxHeartbeats 1000000 in
theorem room_some (L : Ld) (i : Int) (w : World) (hi : amg i 9 = true) :
    Calls Tryd.prog 97 #[.agg L.cells, .int .i64 i] w fun e w' => e = .returned (.tuple #[.int .i64 (roomL L i).1, .bool (roomL L i).2]) ∧ Below w.heap.size w w' := by
  have hne := way_pos L hi
  have hll := last_lt L hne
  have hlen := way_len L i
  have hpos : 0 < (wayL L i).length := List.length_pos_iff.2 hne
  have hwin := way_win L i
  have HR := hide (show roomL L i = (if L.wh (lastW L i) = 0 then (L.loc (lastW L i), openW L i)
    else if L.wh (lastW L i) = 1 ∧ amg (L.loc (lastW L i)) 6 = true then (L.room (L.loc (lastW L i)).toNat, openW L i) else (-1, false)) by unfold roomL; rw [if_neg hne])
  have HL := hide hll
  have HP := hide hpos
  have HN := hide hlen
  have HW := hide hwin
  have HO := hide (show openW L i = ((wayL L i).drop 1).all (fun b => L.on b.toNat) from rfl)
  clear hi hne hll hlen hpos hwin
  generalize hrr : roomL L i = R at *
  clear hrr
  generalize hoo : openW L i = O at *
  clear hoo
  go_enter Tryd.func97, Tryd.ntmps97
  go_wp2_with (refine wl_land (.tmp 2) rfl rfl _ L rfl (cod_new w L) ?_)
  refine (way_any L i _).mono ?_
  rintro e w1 ⟨v, rfl, hn, hb⟩
  have hb' : Below w.heap.size w w1 := ((Below.refl _ _).alloc (Nat.le_refl _) _).trans (hb.mono (by simp))
  have hc : Cod w1 w.heap.size L := (cod_new w L).behind hb (Nat.le_refl _)
  obtain ⟨b, off, cap, rfl, hcap, hmax, hcell⟩ := hn.some HP.out
  generalize lastW L i = k at *
  generalize wayL L i = q at *
  have h0 := HP.out
  have h9 := HN.out
  have HQ := hide hcell
  generalize hqn : q.length = n at *
  have HQN := hide hqn
  obtain ⟨m, rfl⟩ : ∃ m, n = m + 1 := ⟨n - 1, by omega⟩
  clear hcell hn hb HP HN hqn
  have HB := hide hb'
  have HC := hide hc
  clear hb' hc
  unfold maxLen at hmax
  have h16 : ((m : Int) + 1 == 0) = false := by simp; omega
  have hk := HL.out.1
  have cm : w1.cell? ⟨b, off + m, none⟩ = some (.int .i64 (k : Int)) := by
    have := HQ.out m (by omega)
    have e := HL.out.2
    rw [Nat.add_sub_cancel] at e
    rw [e] at this; exact this
  go_wp2
  all_goals
    go_loop [7, 20] (fun o c => ∃ j : Nat, j ≤ m ∧ c = .int .i64 j ∧ o = .bool (((q.drop 1).take j).all fun b => L.on b.toNat)) (fun _ c => m - (intOf c).toNat)
    case atStart => exact ⟨0, Nat.zero_le _, rfl, rfl⟩
    case round =>
      obtain ⟨j, hj, rfl, rfl⟩ := hrel
      by_cases hlt : j < m
      · first
        | (exfalso; omega)
        | (obtain ⟨x, hx, hxe⟩ := all_step HW.out HQN.out hlt
           have HX := hide hxe
           clear hxe
           have cj : w1.cell? ⟨b, off + 1 + j, none⟩ = some (.int .i64 (x : Int)) := by
             have := HQ.out (j + 1) (by omega)
             rw [HX.out.1] at this
             rw [show off + 1 + j = off + (j + 1) by omega]; exact this
           have c4 : w1.cell? ⟨w.heap.size, 84 + x * 5 + 4, none⟩ = some (.bool (L.on x)) := HC.out.thing x 4 hx (by omega)
           have HS := hide (HX.out.2 (fun b => L.on b.toNat))
           generalize ((q.drop 1).take j).all (fun b => L.on b.toNat) = acc at *
           cases acc
           · go_wp2
             go_round
             case rel => exact ⟨j + 1, by omega, by go_num, by rw [HS.out]; rfl⟩
             case measure => simp [intOf]; omega
           · go_wp2
             go_round
             case rel => exact ⟨j + 1, by omega, by go_num, by rw [HS.out]; rfl⟩
             case measure => simp [intOf]; omega)
      · have hjm : j = m := by omega
        subst hjm
        have HA := hide (show (((q.drop 1).take j).all fun b => L.on b.toNat) = O by
          rw [HO.out, List.take_of_length_le (by have := HQN.out; simp; omega)])
        rw [HA.out]
        by_cases hw0 : L.wh k = 0
        · have hb0 : (L.wh k == 0) = true := by simp [hw0]
          have H0 := hide hw0
          clear hw0
          go_wp2_with (first | (refine wl_thing (.tmp 40) rfl rfl _ k L rfl HC.out hk ?_) | (refine wl_new 28 (.tmp 10) (.tmp 41) rfl rfl _ _ rfl rfl rfl Tryd.sizeThing rfl rfl ?_))
          go_ret2
          refine ⟨?_, (HB.out.alloc HB.out.size _)⟩
          rw [HR.out, if_pos H0.out]
          rfl
        · have hb0 : (L.wh k == 0) = false := by simp [hw0]
          have H0 := hide hw0
          clear hw0
          by_cases hw1 : L.wh k = 1
          · have hb1 : (L.wh k == 1) = true := by simp [hw1]
            have H1 := hide hw1
            clear hw1
            go_wp2_with (first | (refine wl_thing (.tmp 40) rfl rfl _ k L rfl HC.out hk ?_) | (refine wl_new 28 (.tmp 10) (.tmp 41) rfl rfl _ _ rfl rfl rfl Tryd.sizeThing rfl rfl ?_))
            refine (among_any (L.loc k) 6 _).mono ?_
            rintro e w2 ⟨rfl, hw2⟩
            rw [hw2]
            clear hw2 w2
            cases ha : amg (L.loc k) 6 with
            | false =>
              have HA6 := hide ha
              clear ha
              go_wp2
              go_ret2
              refine ⟨?_, (HB.out.alloc HB.out.size _)⟩
              rw [HR.out, if_neg H0.out, if_neg (by rw [HA6.out]; simp)]
              rfl
            | true =>
              have HA6 := hide ha
              obtain ⟨g0, g6⟩ := amg_pos ha
              clear ha
              obtain ⟨x, hx⟩ := Int.eq_ofNat_of_zero_le g0
              rw [hx] at g6
              have cr : (w1.alloc (.cells #[.string (L.tname k), .int .i64 (L.kind k), .int .i64 (L.wh k), .int .i64 (x : Int), .bool (L.on k)] 28)).cell? ⟨w.heap.size, 129 + x * 6 + 3, none⟩ = some (.int .i64 (L.room x)) :=
                (HC.out.alloc _).being x 3 (by omega) (by omega)
              have HX := hide hx
              rw [hx]
              clear hx g0
              go_wp2
              go_ret2
              refine ⟨?_, (HB.out.alloc HB.out.size _)⟩
              rw [HR.out, if_neg H0.out, if_pos ⟨H1.out, HA6.out⟩, HX.out]
              rfl
          · have hb1 : (L.wh k == 1) = false := by simp [hw1]
            have H1 := hide hw1
            clear hw1
            go_wp2_with (first | (refine wl_thing (.tmp 40) rfl rfl _ k L rfl HC.out hk ?_) | (refine wl_new 28 (.tmp 10) (.tmp 41) rfl rfl _ _ rfl rfl rfl Tryd.sizeThing rfl rfl ?_))
            go_ret2
            refine ⟨?_, (HB.out.alloc HB.out.size _)⟩
            rw [HR.out, if_neg H0.out, if_neg (fun h => H1.out h.1)]
            rfl

theorem room_any (L : Ld) (i : Int) (w : World) :
    Calls Tryd.prog 97 #[.agg L.cells, .int .i64 i] w fun e w' => e = .returned (.tuple #[.int .i64 (roomL L i).1, .bool (roomL L i).2]) ∧ Below w.heap.size w w' := by
  cases h : amg i 9 with
  | false => exact room_none L i w h
  | true => exact room_some L i w h
end Go.Proofs.YtaifjndkgfffpaaDoor
