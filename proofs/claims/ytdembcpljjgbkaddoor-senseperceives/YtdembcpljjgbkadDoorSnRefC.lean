/-
  The document's own RoomOf, IsBright: contracts.
-/
import Derived.Test.YtdembcpljjgbkadDoorSnRefB
namespace Go.Proofs.YtdembcpljjgbkadDoor
open Go.RowKit
set_option linter.unusedVariables false

theorem ret_room {L : Ld} {i : Int} {a : Int} {b : Bool} (h : roomL L i = (a, b)) : Ending.returned (.tuple #[.int .i64 a, .bool b]) = .returned (.tuple #[.int .i64 (roomL L i).1, .bool (roomL L i).2]) := by rw [h]

set_option maxRecDepth 100000 in
set_option maxHeartbeats 1000000 in
theorem roomof_any (L : Ld) (i : Int) (w : World) :
    Calls Tryd.prog 34 #[.agg L.cells, .int .i64 i] w fun e w' => e = .returned (.tuple #[.int .i64 (roomL L i).1, .bool (roomL L i).2]) ∧ Below w.heap.size w w' := by
  have HV := hide (room_root L i)
  have C := hide (fun W => root_any L i W)
  generalize rootL L i = t at *
  obtain ⟨wh, loc, op, ok⟩ := t
  go_enter Tryd.func34, Tryd.ntmps34
  go_wp2_with (refine wl_land (.tmp 2) rfl rfl _ L rfl (cod_new w L) ?_)
  refine (C.out _).mono ?_
  rintro e w1 ⟨rfl, hb⟩
  have G1 := hide ((gd_start L w).call hb)
  clear hb C
  cases ok with
  | false =>
    have HN := hide (show roomL L i = (-1, false) by rw [← HV.out]; simp [roomOf])
    go_wp2
    go_ret2
    exact ⟨ret_room HN.out, G1.out.low⟩
  | true =>
    cases h1 : (wh == 1) with
    | false =>
      have HN := hide (show roomL L i = (loc, op) by
        have : ¬ wh = 1 := by simpa using h1
        rw [← HV.out]; simp [roomOf, this])
      go_wp2
      go_ret2
      exact ⟨ret_room HN.out, G1.out.low⟩
    | true =>
      have e1 : wh = 1 := by simpa using h1
      by_cases h0 : 0 ≤ loc
      · obtain ⟨x, rfl⟩ := Int.eq_ofNat_of_zero_le h0
        by_cases h6 : x < 6
        · have HN := hide (show roomL L i = (L.room x, op) by
            have a1 : ¬ ((x : Int) < 0 ∨ 5 < (x : Int)) := by omega
            rw [← HV.out]; simp only [roomOf, e1]; rw [if_pos (by simp), if_neg a1, Int.toNat_natCast])
          have c1 : w1.cell? ⟨w.heap.size, 129 + x * 6 + 3, none⟩ = some (.int .i64 (L.room x)) := G1.out.cod.being x 3 (by omega) (by omega)
          clear e1
          go_wp2
          go_ret2
          exact ⟨ret_room HN.out, G1.out.low⟩
        · have HN := hide (show roomL L i = (-1, false) by
            have a1 : (x : Int) < 0 ∨ 5 < (x : Int) := by omega
            rw [← HV.out]; simp only [roomOf, e1]; rw [if_pos (by simp), if_pos a1])
          clear e1
          go_wp2
          go_ret2
          exact ⟨ret_room HN.out, G1.out.low⟩
      · have HN := hide (show roomL L i = (-1, false) by
          have a1 : loc < 0 ∨ 5 < loc := by omega
          rw [← HV.out]; simp only [roomOf, e1]; rw [if_pos (by simp), if_pos a1])
        clear e1
        go_wp2
        go_ret2
        exact ⟨ret_room HN.out, G1.out.low⟩

theorem any_succ (f : Nat → Bool) (k : Nat) : (List.range (k + 1)).any f = ((List.range k).any f || f k) := by
  rw [List.range_succ, List.any_append]; simp

set_option maxRecDepth 100000 in
set_option maxHeartbeats 1000000 in
theorem isbright_any (L : Ld) (r : Int) (w : World) :
    Calls Tryd.prog 14 #[.agg L.cells, .int .i64 r] w fun e w' => e = .returned (.bool (brightL L r)) ∧ Below w.heap.size w w' := by
  by_cases h0 : 0 ≤ r
  · obtain ⟨x, rfl⟩ := Int.eq_ofNat_of_zero_le h0
    by_cases h6 : x < 6
    · have HV := hide (show brightL L (x : Int) = (!L.dark x || (List.range 9).any (shines L (x : Int))) by
        have : amg (x : Int) 6 = true := amg_mk (by omega) (by omega)
        simp [brightL, this])
      have c1 := (cod_new w L).dark x h6
      go_enter Tryd.func14, Tryd.ntmps14
      go_wp2_with (refine wl_things (.tmp 22) rfl rfl _ L rfl (cod_new w L) ?_)
      clear c1
      go_loopw [5, 24] (fun a c wr => ∃ k : Nat, k ≤ 9 ∧ c = .int .i64 k ∧ a = .bool (!L.dark x || (List.range k).any (shines L (x : Int))) ∧ GdRel L w wr) (fun _ c _ => 9 - (intOf c).toNat)
      case atStart => exact ⟨0, by omega, rfl, by simp, gd_start L w⟩
      case round =>
        obtain ⟨k, hle, rfl, rfl, R⟩ := hrel
        have HR := hide R
        clear R
        by_cases hk : k < 9
        · have HX := hide (any_succ (shines L (x : Int)) k)
          have HS := hide (show shines L (x : Int) k = ((L.kind k == 1) && L.on k && (roomL L (k : Int)).2 && ((roomL L (k : Int)).1 == (x : Int))) by
            rw [Bool.eq_iff_iff]; simp [shines])
          generalize (List.range k).any (shines L (x : Int)) = A at *
          generalize (!L.dark x) = D at *
          go_wp2_with (first | (refine wl_ithingT (.tmp 23) (.tmp 24) rfl rfl k L rfl rfl hk ?_) | (refine wl_new 40 (.tmp 7) (.tmp 27) rfl rfl _ _ rfl rfl rfl Tryd.sizeThing rfl rfl ?_) | (refine wl_land (.tmp 2) rfl rfl _ L rfl (HR.out.box _).cod ?_))
          refine (roomof_any L (k : Int) _).mono ?_
          rintro e w1 ⟨rfl, hb⟩
          have R1 := hide ((HR.out.box _).call hb)
          have k1 : w1.cell? ⟨wr.heap.size, 1, none⟩ = some (.int .i64 (L.kind k)) := by
            rw [hb.cell (by simp)]; simp
          have k4 : w1.cell? ⟨wr.heap.size, 4, none⟩ = some (.bool (L.on k)) := by
            rw [hb.cell (by simp)]; simp
          clear hb
          generalize roomL L (k : Int) = rr at *
          obtain ⟨rm, op⟩ := rr
          cases hacc : (D || A) with
          | true =>
            go_wp2
            go_roundw
            case rel => exact ⟨k + 1, by omega, by go_num, by rw [HX.out, ← Bool.or_assoc, hacc]; rfl, R1.out⟩
            case measure => simp [intOf]; omega
          | false =>
            cases h1 : (L.kind k == 1) with
            | false =>
              go_wp2
              go_roundw
              case rel => exact ⟨k + 1, by omega, by go_num, by rw [HX.out, ← Bool.or_assoc, hacc, HS.out, h1]; rfl, R1.out⟩
              case measure => simp [intOf]; omega
            | true =>
              cases h2 : L.on k with
              | false =>
                rw [h2] at k4
                go_wp2
                go_roundw
                case rel => exact ⟨k + 1, by omega, by go_num, by rw [HX.out, ← Bool.or_assoc, hacc, HS.out, h2]; simp, R1.out⟩
                case measure => simp [intOf]; omega
              | true =>
                rw [h2] at k4
                cases op with
                | false =>
                  go_wp2
                  go_roundw
                  case rel => exact ⟨k + 1, by omega, by go_num, by rw [HX.out, ← Bool.or_assoc, hacc, HS.out]; simp, R1.out⟩
                  case measure => simp [intOf]; omega
                | true =>
                  go_wp2
                  go_roundw
                  case rel => exact ⟨k + 1, by omega, by go_num, by rw [HX.out, ← Bool.or_assoc, hacc, HS.out, h1, h2]; simp, R1.out⟩
                  case measure => simp [intOf]; omega
        · have hk9 : k = 9 := by omega
          subst hk9
          go_wp2
          go_ret
          exact ⟨ret_bool (by rw [HV.out]), HR.out.low⟩
    · have HV := hide (show brightL L (x : Int) = false by
        have : amg (x : Int) 6 = false := amg_no (by omega)
        simp [brightL, this])
      go_enter Tryd.func14, Tryd.ntmps14
      go_wp2
      go_ret
      exact ⟨ret_bool HV.out.symm, (gd_start L w).low⟩
  · have HV := hide (show brightL L r = false by
      have : amg r 6 = false := amg_no (by omega)
      simp [brightL, this])
    go_enter Tryd.func14, Tryd.ntmps14
    go_wp2
    go_ret
    exact ⟨ret_bool HV.out.symm, (gd_start L w).low⟩
end Go.Proofs.YtdembcpljjgbkadDoor
