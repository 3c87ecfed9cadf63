/-
  LandNests: the walk.
-/
import Derived.Test.YtponfhjplpfjkacLdNest
namespace Go.Proofs.Ytponfhjplpfjkac
open Go.RowKit
set_option linter.unusedVariables false

set_option maxRecDepth 100000 in
set_option maxHeartbeats 1000000 in
theorem nests_bad (L : Ld) (i j : Int) (w : World) (hwf : Wf L) (hg : goodL L = false) :
    Calls Try.prog 5 #[.agg L.cells, .int .i64 i, .int .i64 j] w fun e w' => e = .returned (.bool true) ∧ Below w.heap.size w w' := by
  have HF := hide hwf
  have HG := hide hg
  clear hwf hg
  go_enter Try.func5, Try.ntmps5
  go_wp2_with (refine wl_land (.tmp 3) rfl rfl _ L rfl (cod_new w L) ?_)
  refine (good_any L _ HF.out).mono ?_
  rintro e w1 ⟨rfl, hb⟩
  rw [HG.out]
  have R1 := hide ((gd_start L w).call hb)
  clear hb
  go_wp2_with fail
  refine (stands_any _).mono ?_
  rintro e w2 ⟨rfl, hb⟩
  have R2 := hide (R1.out.call hb)
  clear hb
  go_wp2
  go_ret
  exact ⟨rfl, R2.out.low⟩

set_option maxRecDepth 100000 in
set_option maxHeartbeats 2000000 in
theorem nests_out (L : Ld) (i j : Int) (w : World) (hwf : Wf L) (hg : goodL L = true) (ho : i < 0 ∨ j < 0 ∨ 9 ≤ i ∨ 9 ≤ j) :
    Calls Try.prog 5 #[.agg L.cells, .int .i64 i, .int .i64 j] w fun e w' => e = .returned (.bool true) ∧ Below w.heap.size w w' := by
  have HF := hide hwf
  have HG := hide hg
  clear hwf hg
  by_cases h1 : i < 0
  · clear ho
    go_enter Try.func5, Try.ntmps5
    go_wp2_with (refine wl_land (.tmp 3) rfl rfl _ L rfl (cod_new w L) ?_)
    refine (good_any L _ HF.out).mono ?_
    rintro e w1 ⟨rfl, hb⟩
    rw [HG.out]
    have R1 := hide ((gd_start L w).call hb)
    clear hb
    go_wp2_with fail
    refine (stands_any _).mono ?_
    rintro e w2 ⟨rfl, hb⟩
    have R2 := hide (R1.out.call hb)
    clear hb
    go_wp2
    go_ret
    exact ⟨rfl, R2.out.low⟩
  · by_cases h2 : j < 0
    · clear ho
      go_enter Try.func5, Try.ntmps5
      go_wp2_with (refine wl_land (.tmp 3) rfl rfl _ L rfl (cod_new w L) ?_)
      refine (good_any L _ HF.out).mono ?_
      rintro e w1 ⟨rfl, hb⟩
      rw [HG.out]
      have R1 := hide ((gd_start L w).call hb)
      clear hb
      go_wp2_with fail
      refine (stands_any _).mono ?_
      rintro e w2 ⟨rfl, hb⟩
      have R2 := hide (R1.out.call hb)
      clear hb
      go_wp2
      go_ret
      exact ⟨rfl, R2.out.low⟩
    · by_cases h3 : 9 ≤ i
      · clear ho
        go_enter Try.func5, Try.ntmps5
        go_wp2_with (refine wl_land (.tmp 3) rfl rfl _ L rfl (cod_new w L) ?_)
        refine (good_any L _ HF.out).mono ?_
        rintro e w1 ⟨rfl, hb⟩
        rw [HG.out]
        have R1 := hide ((gd_start L w).call hb)
        clear hb
        go_wp2_with fail
        refine (stands_any _).mono ?_
        rintro e w2 ⟨rfl, hb⟩
        have R2 := hide (R1.out.call hb)
        clear hb
        go_wp2
        go_ret
        exact ⟨rfl, R2.out.low⟩
      · have h4 : 9 ≤ j := by omega
        clear ho
        go_enter Try.func5, Try.ntmps5
        go_wp2_with (refine wl_land (.tmp 3) rfl rfl _ L rfl (cod_new w L) ?_)
        refine (good_any L _ HF.out).mono ?_
        rintro e w1 ⟨rfl, hb⟩
        rw [HG.out]
        have R1 := hide ((gd_start L w).call hb)
        clear hb
        go_wp2_with fail
        refine (stands_any _).mono ?_
        rintro e w2 ⟨rfl, hb⟩
        have R2 := hide (R1.out.call hb)
        clear hb
        go_wp2
        go_ret
        exact ⟨rfl, R2.out.low⟩

set_option maxRecDepth 100000 in
set_option maxHeartbeats 4000000 in
theorem nests_in (L : Ld) (i j : Int) (w : World) (hwf : Wf L) (hg : goodL L = true) (hi : amg i 9 = true) (hj : amg j 9 = true) :
    Calls Try.prog 5 #[.agg L.cells, .int .i64 i, .int .i64 j] w fun e w' => e = .returned (.bool true) ∧ Below w.heap.size w w' := by
  have HF := hide hwf
  have HG := hide hg
  have HS := hide (good_self hg hi)
  have HA := hide (fun h h' => good_anti hg hi hj h h')
  have HE := hide (fun h => good_same hg hi hj h)
  have hr := good_room hg hi
  obtain ⟨i0, i9⟩ := amg_pos hi
  obtain ⟨j0, j9⟩ := amg_pos hj
  clear hwf hg hi hj
  have CR := hide (room_any L i)
  have CQ := hide (room_any L j)
  generalize (roomL L i).1 = r at *
  generalize (roomL L i).2 = o at *
  generalize (roomL L j).1 = q at *
  generalize (roomL L j).2 = o' at *
  obtain ⟨r0, r6⟩ := hr
  have d0 : decide (r < 0) = false := by simp; omega
  have d6 : decide (6 ≤ r) = false := by simp; omega
  go_enter Try.func5, Try.ntmps5
  go_wp2_with (refine wl_land (.tmp 3) rfl rfl _ L rfl (cod_new w L) ?_)
  refine (good_any L _ HF.out).mono ?_
  rintro e w1 ⟨rfl, hb⟩
  rw [HG.out]
  have R1 := hide ((gd_start L w).call hb)
  clear hb
  go_wp2_with (refine wl_land (.tmp 3) rfl rfl _ L rfl R1.out.cod ?_)
  refine (CR.out _).mono ?_
  rintro e w2 ⟨rfl, hb⟩
  have R2 := hide (R1.out.call hb)
  clear hb
  go_wp2_with (refine wl_land (.tmp 3) rfl rfl _ L rfl R2.out.cod ?_)
  refine (inside_any L i i _).mono ?_
  rintro e w3 ⟨rfl, hb⟩
  rw [decide_eq_true HS.out]
  have R3 := hide (R2.out.call hb)
  clear hb
  by_cases hij : i = j
  · have hn : (i != j) = false := by simp [hij]
    have HIJ := hide hij
    clear hij
    go_wp2_with (refine wl_land (.tmp 3) rfl rfl _ L rfl R3.out.cod ?_)
    refine (CQ.out _).mono ?_
    rintro e w4 ⟨rfl, hb⟩
    have R4 := hide (R3.out.call hb)
    clear hb
    go_wp2_with (refine wl_land (.tmp 3) rfl rfl _ L rfl R4.out.cod ?_)
    refine (inside_any L i j _).mono ?_
    rintro e w5 ⟨rfl, hb⟩
    rw [decide_eq_true (show j ∈ wayL L i by rw [← HIJ.out]; exact HS.out)]
    have R5 := hide (R4.out.call hb)
    have hq : (r == q) = true := by simp [HE.out (show j ∈ wayL L i by rw [← HIJ.out]; exact HS.out)]
    clear hb
    go_wp2_with fail
    refine (stands_any _).mono ?_
    rintro e w6 ⟨rfl, hb⟩
    have R6 := hide (R5.out.call hb)
    clear hb
    go_wp2
    go_ret
    exact ⟨rfl, R6.out.low⟩
  · have hn : (i != j) = true := by simp [hij]
    have HIJ := hide hij
    clear hij
    go_wp2_with (refine wl_land (.tmp 3) rfl rfl _ L rfl R3.out.cod ?_)
    refine (inside_any L i j _).mono ?_
    rintro e w4 ⟨rfl, hb⟩
    have R4 := hide (R3.out.call hb)
    clear hb
    by_cases hm : j ∈ wayL L i
    · have HM := hide hm
      have hq : (r == q) = true := by simp [HE.out hm]
      rw [decide_eq_true hm]
      clear hm
      go_wp2_with (refine wl_land (.tmp 3) rfl rfl _ L rfl R4.out.cod ?_)
      refine (inside_any L j i _).mono ?_
      rintro e w5 ⟨rfl, hb⟩
      have R5 := hide (R4.out.call hb)
      clear hb
      rw [decide_eq_false (fun h => HIJ.out (HA.out HM.out h))]
      go_wp2_with (refine wl_land (.tmp 3) rfl rfl _ L rfl R5.out.cod ?_)
      refine (CQ.out _).mono ?_
      rintro e w6 ⟨rfl, hb⟩
      have R6 := hide (R5.out.call hb)
      clear hb
      go_wp2_with (refine wl_land (.tmp 3) rfl rfl _ L rfl R6.out.cod ?_)
      refine (inside_any L i j _).mono ?_
      rintro e w7 ⟨rfl, hb⟩
      rw [decide_eq_true HM.out]
      have R7 := hide (R6.out.call hb)
      clear hb
      go_wp2_with fail
      refine (stands_any _).mono ?_
      rintro e w8 ⟨rfl, hb⟩
      have R8 := hide (R7.out.call hb)
      clear hb
      go_wp2
      go_ret
      exact ⟨rfl, R8.out.low⟩
    · have HM := hide hm
      rw [decide_eq_false hm]
      clear hm
      go_wp2_with (refine wl_land (.tmp 3) rfl rfl _ L rfl R4.out.cod ?_)
      refine (CQ.out _).mono ?_
      rintro e w6 ⟨rfl, hb⟩
      have R6 := hide (R4.out.call hb)
      clear hb
      go_wp2_with (refine wl_land (.tmp 3) rfl rfl _ L rfl R6.out.cod ?_)
      refine (inside_any L i j _).mono ?_
      rintro e w7 ⟨rfl, hb⟩
      rw [decide_eq_false HM.out]
      have R7 := hide (R6.out.call hb)
      clear hb
      go_wp2_with fail
      refine (stands_any _).mono ?_
      rintro e w8 ⟨rfl, hb⟩
      have R8 := hide (R7.out.call hb)
      clear hb
      go_wp2
      go_ret
      exact ⟨rfl, R8.out.low⟩

theorem nests_walk (L : Ld) (i j : Int) (w : World) (hwf : Wf L) :
    Calls Try.prog 5 #[.agg L.cells, .int .i64 i, .int .i64 j] w fun e w' => e = .returned (.bool true) ∧ Below w.heap.size w w' := by
  cases hg : goodL L with
  | false => exact nests_bad L i j w hwf hg
  | true =>
    by_cases h : i < 0 ∨ j < 0 ∨ 9 ≤ i ∨ 9 ≤ j
    · exact nests_out L i j w hwf hg h
    · exact nests_in L i j w hwf hg (amg_mk (by omega) (by omega)) (amg_mk (by omega) (by omega))
end Go.Proofs.Ytponfhjplpfjkac
