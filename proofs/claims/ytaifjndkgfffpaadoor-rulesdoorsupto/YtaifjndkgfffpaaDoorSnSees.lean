/-
  Sees: its contract.
-/
import Derived.Test.YtaifjndkgfffpaaDoorSnBright
namespace Go.Proofs.YtaifjndkgfffpaaDoor
open Go.RowKit
set_option linter.unusedVariables false

theorem Cod.beingR {w : World} {b : Nat} {L : Ld} (h : Cod w b L) (k : Nat) (hk : k < 6) : w.rangeAt b (129 + k * 6) (L.bcells k).toList := by
  intro j v hv
  have hj : j < 6 := by
    have := (List.getElem?_eq_some_iff.1 hv).1; simpa [Ld.bcells] using this
  rw [h.being k j hk hj, ← hv]
  have := L.bcells_get k j hj
  simpa using this.symm

/-- A being of a land is read whole. -/
theorem run_being {w : World} {b : Nat} {L : Ld} (h : Cod w b L) (k : Nat) (hk : k < 6) :
    (Instr.loadAt 31 (.pointer (some ⟨b, 129 + k * 6, none⟩))).run Tryd.prog w = .ok (.agg #[.string (L.bname k), .bool (L.here k), .bool (L.keen k), .int .i64 (L.room k), .int .i64 (L.health k), .int .i64 (L.foe k)]) w := by
  simp only [Instr.loadAt, Instr.sureAddr, Sem.run_bind, Sem.run_pure, Result.andThen_ok, run_loadVar_mid w b (129 + k * 6) 31 (L.bcells k).toList _ (h.beingR k hk) Tryd.underlying31 rfl Tryd.sizeBeing]
  rfl

theorem GdRel.drew {L : Ld} {w wr : World} (h : GdRel L w wr) : GdRel L w wr.drew := ⟨h.cod, ⟨h.low.os, h.low.tape, h.low.output, h.low.size, h.low.block⟩⟩

theorem sees_not {L : Ld} {a b : Int} (h : abtL L a = false ∨ abtL L b = false) : seesL L a b = false := by
  unfold seesL
  rcases h with h | h
  · rw [h]; rfl
  · rw [h, Bool.and_false]; rfl
theorem sees_if {L : Ld} {a b : Int} (ha : abtL L a = true) (hb : abtL L b = true) (hne : a ≠ b) :
    seesL L a b = (decide (L.room a.toNat = L.room b.toNat) && brightL L (L.room b.toNat) && (!hiddenL L b || L.keen a.toNat)) := by
  unfold seesL
  rw [ha, hb, decide_eq_false hne]; rfl

/-- A being of a land is read whole. -/
theorem wl_being {ops : Array Oper} {rest : List Oper} {op : Oper} {a : Act} {w : World} {Q : Exit → Act → World → Prop} (x : Operand) (ho : op.op = .load 31 x) (hw : Region.wanted op (yielded ops a.tmps) = true) (b k : Nat) (L : Ld)
    (hx : a.eval x = .pointer (some ⟨b, 129 + k * 6, none⟩)) (hc : Cod w b L) (hk : k < 6)
    (h : wpList Tryd.prog ops Q rest (a.put op.dst (.agg #[.string (L.bname k), .bool (L.here k), .bool (L.keen k), .int .i64 (L.room k), .int .i64 (L.health k), .int .i64 (L.foe k)])) w) : wpList Tryd.prog ops Q (op :: rest) a w :=
  wl_mid 31 x ho hw b (129 + k * 6) (L.bcells k).toList _ hx (hc.beingR k hk) Tryd.underlying31 rfl Tryd.sizeBeing h

set_option maxRecDepth 100000 in
set_option maxHeartbeats 1000000 in
theorem sees_any (L : Ld) (a b : Int) (w : World) :
    Calls Tryd.prog 98 #[.agg L.cells, .int .i64 a, .int .i64 b] w fun e w' => e = .returned (.bool (seesL L a b)) ∧ Below w.heap.size w w' := by
  cases ha : abtL L a with
  | false =>
    have HV := hide (sees_not (b := b) (.inl ha))
    have HA := hide ha
    clear ha
    go_enter Tryd.func98, Tryd.ntmps98
    go_wp2_with (refine wl_land (.tmp 3) rfl rfl _ L rfl (cod_new w L) ?_)
    refine (shere_any L a _).mono ?_
    rintro e w1 ⟨rfl, hb⟩
    have G1 := hide ((gd_start L w).call hb)
    rw [HA.out]
    clear hb
    go_wp2
    go_ret
    exact ⟨ret_bool HV.out.symm, G1.out.low⟩
  | true =>
    cases hB : abtL L b with
    | false =>
      have HV := hide (sees_not (a := a) (.inr hB))
      have HA := hide ha
      have HB := hide hB
      clear ha hB
      go_enter Tryd.func98, Tryd.ntmps98
      go_wp2_with (refine wl_land (.tmp 3) rfl rfl _ L rfl (cod_new w L) ?_)
      refine (shere_any L a _).mono ?_
      rintro e w1 ⟨rfl, hb⟩
      have G1 := hide ((gd_start L w).call hb)
      rw [HA.out]
      clear hb
      go_wp2_with (refine wl_land (.tmp 3) rfl rfl _ L rfl G1.out.cod ?_)
      refine (shere_any L b _).mono ?_
      rintro e w2 ⟨rfl, hb⟩
      have G2 := hide (G1.out.call hb)
      rw [HB.out]
      clear hb
      go_wp2
      go_ret
      exact ⟨ret_bool HV.out.symm, G2.out.low⟩
    | true =>
      by_cases hab : a = b
      · subst hab
        have HV := hide (show seesL L a a = true by rw [sees_self, ha])
        have HA := hide ha
        clear ha hB
        go_enter Tryd.func98, Tryd.ntmps98
        go_wp2_with (refine wl_land (.tmp 3) rfl rfl _ L rfl (cod_new w L) ?_)
        refine (shere_any L a _).mono ?_
        rintro e w1 ⟨rfl, hb⟩
        have G1 := hide ((gd_start L w).call hb)
        rw [HA.out]
        clear hb
        go_wp2_with (refine wl_land (.tmp 3) rfl rfl _ L rfl G1.out.cod ?_)
        refine (shere_any L a _).mono ?_
        rintro e w2 ⟨rfl, hb⟩
        have G2 := hide (G1.out.call hb)
        rw [HA.out]
        clear hb
        go_wp2
        go_ret
        exact ⟨ret_bool HV.out.symm, G2.out.low⟩
      · have HV := hide (sees_if ha hB hab)
        have hne : (a == b) = false := by simp [hab]
        have HA := hide ha
        have HB := hide hB
        have pa : amg a 6 = true := by simp only [abtL, Bool.and_eq_true] at ha; exact ha.1
        have pb : amg b 6 = true := by simp only [abtL, Bool.and_eq_true] at hB; exact hB.1
        obtain ⟨a0, a6⟩ := amg_pos pa
        obtain ⟨b0, b6⟩ := amg_pos pb
        obtain ⟨x, rfl⟩ := Int.eq_ofNat_of_zero_le a0
        obtain ⟨y, rfl⟩ := Int.eq_ofNat_of_zero_le b0
        clear ha hB hab pa pb
        go_enter Tryd.func98, Tryd.ntmps98
        go_wp2_with (refine wl_land (.tmp 3) rfl rfl _ L rfl (cod_new w L) ?_)
        refine (shere_any L (x : Int) _).mono ?_
        rintro e w1 ⟨rfl, hb⟩
        have G1 := hide ((gd_start L w).call hb)
        rw [HA.out]
        clear hb
        go_wp2_with (refine wl_land (.tmp 3) rfl rfl _ L rfl G1.out.cod ?_)
        refine (shere_any L (y : Int) _).mono ?_
        rintro e w2 ⟨rfl, hb⟩
        have G2 := hide (G1.out.call hb)
        rw [HB.out]
        clear hb
        have cx0 : w2.cell? ⟨w.heap.size, 129 + x * 6, none⟩ = some (.string (L.bname x)) := G2.out.cod.being x 0 (by omega) (by omega)
        have cx1 : w2.cell? ⟨w.heap.size, 129 + x * 6 + 1, none⟩ = some (.bool (L.here x)) := G2.out.cod.being x 1 (by omega) (by omega)
        have cx2 : w2.cell? ⟨w.heap.size, 129 + x * 6 + 2, none⟩ = some (.bool (L.keen x)) := G2.out.cod.being x 2 (by omega) (by omega)
        have cx3 : w2.cell? ⟨w.heap.size, 129 + x * 6 + 3, none⟩ = some (.int .i64 (L.room x)) := G2.out.cod.being x 3 (by omega) (by omega)
        have cx4 : w2.cell? ⟨w.heap.size, 129 + x * 6 + 4, none⟩ = some (.int .i64 (L.health x)) := G2.out.cod.being x 4 (by omega) (by omega)
        have cx5 : w2.cell? ⟨w.heap.size, 129 + x * 6 + 5, none⟩ = some (.int .i64 (L.foe x)) := G2.out.cod.being x 5 (by omega) (by omega)
        have cy0 : w2.cell? ⟨w.heap.size, 129 + y * 6, none⟩ = some (.string (L.bname y)) := G2.out.cod.being y 0 (by omega) (by omega)
        have cy1 : w2.cell? ⟨w.heap.size, 129 + y * 6 + 1, none⟩ = some (.bool (L.here y)) := G2.out.cod.being y 1 (by omega) (by omega)
        have cy2 : w2.cell? ⟨w.heap.size, 129 + y * 6 + 2, none⟩ = some (.bool (L.keen y)) := G2.out.cod.being y 2 (by omega) (by omega)
        have cy3 : w2.cell? ⟨w.heap.size, 129 + y * 6 + 3, none⟩ = some (.int .i64 (L.room y)) := G2.out.cod.being y 3 (by omega) (by omega)
        have cy4 : w2.cell? ⟨w.heap.size, 129 + y * 6 + 4, none⟩ = some (.int .i64 (L.health y)) := G2.out.cod.being y 4 (by omega) (by omega)
        have cy5 : w2.cell? ⟨w.heap.size, 129 + y * 6 + 5, none⟩ = some (.int .i64 (L.foe y)) := G2.out.cod.being y 5 (by omega) (by omega)
        have hlt : w.heap.size < w2.heap.size := G2.out.cod.lt
        go_wp2
        go_cut [7, 8] (fun p q wc => ∃ i j : Nat, p = .pointer (some ⟨i, 0, none⟩) ∧ q = .pointer (some ⟨j, 0, none⟩) ∧ GdRel L w wc ∧ wc.cell? ⟨i, 2, none⟩ = some (.bool (L.keen x)) ∧ wc.cell? ⟨i, 3, none⟩ = some (.int .i64 (L.room x)) ∧ wc.cell? ⟨j, 3, none⟩ = some (.int .i64 (L.room y)))
        case first =>
          go_region
          · go_wp2
            go_meet
            exact ⟨_, _, rfl, rfl, ((G2.out.box _).box _).drew, by go_simp, by go_simp, by go_simp⟩
          · go_wp2
            go_meet
            exact ⟨_, _, rfl, rfl, ((G2.out.box _).box _).drew, by go_simp, by go_simp, by go_simp⟩
        case rest =>
          obtain ⟨i, j, rfl, rfl, g, k2, k3, k4⟩ := hcut
          clear cx0 cx1 cx2 cx3 cx4 cx5 cy0 cy1 cy2 cy3 cy4 cy5 hlt
          have G3 := hide g
          clear g G1 G2 HA HB
          by_cases hr : L.room x = L.room y
          · have e1 : (L.room x == L.room y) = true := by simp [hr]
            have HE := hide hr
            clear hr
            go_wp2_with (refine wl_land (.tmp 3) rfl rfl _ L rfl G3.out.cod ?_)
            refine (bright_any L (L.room x) _).mono ?_
            rintro e w3 ⟨rfl, hb⟩
            have c2 : w3.cell? ⟨i, 2, none⟩ = some (.bool (L.keen x)) := by rw [hb.cell (cell_lt k2)]; exact k2
            have G4 := hide (G3.out.call hb)
            clear hb k2 k3 k4
            have HV2 := hide (show seesL L (x : Int) (y : Int) = (brightL L (L.room x) && (!hiddenL L (y : Int) || L.keen x)) by rw [HV.out, Int.toNat_natCast, Int.toNat_natCast, ← HE.out]; simp)
            cases hbr : brightL L (L.room x) with
            | false =>
              have HN := hide (show seesL L (x : Int) (y : Int) = false by rw [HV2.out, hbr]; simp)
              go_wp2
              go_ret
              exact ⟨ret_bool HN.out.symm, G4.out.low⟩
            | true =>
              cases hkn : L.keen x with
              | true =>
                have HN := hide (show seesL L (x : Int) (y : Int) = true by rw [HV2.out, hbr, hkn]; simp)
                go_wp2
                go_ret
                exact ⟨ret_bool HN.out.symm, G4.out.low⟩
              | false =>
                have HN := hide (show seesL L (x : Int) (y : Int) = !hiddenL L (y : Int) by rw [HV2.out, hbr, hkn]; simp)
                go_wp2_with (refine wl_land (.tmp 3) rfl rfl _ L rfl G4.out.cod ?_)
                refine (hidden_any L (y : Int) _).mono ?_
                rintro e w4 ⟨rfl, hb⟩
                have G5 := hide (G4.out.call hb)
                clear hb c2
                go_wp2
                go_ret
                exact ⟨ret_bool HN.out.symm, G5.out.low⟩
          · have e1 : (L.room x == L.room y) = false := by simp [hr]
            have HN := hide (show seesL L (x : Int) (y : Int) = false by rw [HV.out, Int.toNat_natCast, Int.toNat_natCast, decide_eq_false hr]; simp)
            clear hr
            go_wp2
            go_ret
            exact ⟨ret_bool HN.out.symm, G3.out.low⟩
end Go.Proofs.YtaifjndkgfffpaaDoor
