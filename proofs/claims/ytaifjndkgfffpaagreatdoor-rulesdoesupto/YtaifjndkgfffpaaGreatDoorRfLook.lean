/-
  The document's own turn: who looks is told: the contract. Written by a program.
-/
import Derived.Test.YtaifjndkgfffpaaGreatDoorMgW
import Derived.Test.YtaifjndkgfffpaaGreatDoorMgN
import Derived.Test.YtaifjndkgfffpaaGreatDoorMgE
namespace Go.Proofs.YtaifjndkgfffpaaGreatDoor
open Go.RowKit
set_option linter.unusedVariables false

/-- What lies in memory while the ways are gathered. -/
structure LkRel (w0 : World) (L : Ld) (Es : List Ev) (b r k0 : Nat) (w wr : World) : Prop where
  sn : Sn 52 [.int .i64 (b : Int)] w0 L Es wr
  st : Stp w0.heap.size 166 w wr
  room : wr.heap[k0]? = some (.cells (L.rcells r) 25 (0, 0))
theorem LkRel.drewN {w0 : World} {L : Ld} {Es : List Ev} {b r k0 : Nat} {w wr : World} (h : LkRel w0 L Es b r k0 w wr) (n : Nat) : LkRel w0 L Es b r k0 w (wr.drewN n) := ⟨h.sn.drewN n, h.st.trans (h.sn.stp (below_drewN (Below.refl _ _) n) 166), h.room⟩
theorem exec_sroom {a : Act} {op : Oper} {w : World} (x : Operand) (ho : op.op = .load 25 x) {T : TypeId} {pre : List Value} {w0 : World} {L : Ld} {Es : List Ev} (k : Nat) (hk : k < 6)
    (hx : a.eval x = .pointer (some ⟨w0.heap.size, k * 14, none⟩)) (hc : Sn T pre w0 L Es w) : (execOp a.eval op).run Tryz.prog w = .ok (.value (.agg (L.rcells k))) w := by
  have hr : w.rangeAt w0.heap.size (k * 14) (L.rcells k).toList := by
    intro j v hv
    have hj : j < 14 := by
      have := (List.getElem?_eq_some_iff.1 hv).1; simpa [Ld.rcells] using this
    rw [hc.room k j hk hj, ← hv, Array.getElem?_toList, L.rcells_get k j hj]
  have := run_loadVar_mid (P := Tryz.prog) w w0.heap.size (k * 14) 25 (L.rcells k).toList _ hr Tryz.underlying25 rfl Tryz.sizeRoom
  rw [Array.toArray_toList] at this
  unfold execOp
  simp only [ho, hx, Instr.loadAt, Instr.sureAddr, Sem.run_bind, Sem.run_pure, Result.andThen_ok, this]
def zroom : Array Value := #[.string ⟨#[]⟩, .bool false, .int .i64 0, .int .i64 0, .int .i64 0, .int .i64 0, .int .i64 0, .int .i64 0, .bool false, .bool false, .bool false, .bool false, .bool false, .bool false]
theorem Tryz.zRoomR : (Tryz.prog.info? 25).map (fun i => (i.zero, i.size)) = some (some (.agg zroom), 14) := by kernel_rfl
theorem exec_allocroom {a : Act} {op : Oper} {w : World} (ho : op.op = .alloc 25) : (execOp a.eval op).run Tryz.prog w = .ok (.value (.pointer (some ⟨w.heap.size, 0, none⟩))) (w.alloc (.cells zroom 25)) := by
  have hz := (zero_of_info Tryz.zRoomR).1
  unfold execOp
  simp only [ho, Sem.run_bind]
  go_simp
theorem exec_storeroom {a : Act} {op : Oper} {w : World} (x y : Operand) (ho : op.op = .store 25 x y) {k : Nat} {L : Ld} {r : Nat} {old : Array Value} (hx : a.eval x = .pointer (some ⟨k, 0, none⟩)) (hy : a.eval y = .agg (L.rcells r))
    (hg : w.heap[k]? = some (.cells old 25 (0, 0))) (hs : old.size = 14) : (execOp a.eval op).run Tryz.prog w = .ok .skip (w.setRow k (L.rcells r)) := by
  have := run_storeVar_row (P := Tryz.prog) w k 25 25 old (L.rcells r) hg Tryz.sizeRoom (by rw [hs]; rfl) (by simp [Ld.rcells, Value.oneCell'])
  unfold execOp
  simp only [ho, hx, hy, Instr.storeAt, Instr.sureAddr, Sem.run_bind, Sem.run_pure, Result.andThen_ok, this]
theorem lk_set {w0 : World} {L : Ld} {Es : List Ev} {b r k0 : Nat} {w wr : World} {old : Array Value} (h : Sn 52 [.int .i64 (b : Int)] w0 L Es wr) (st : Stp w0.heap.size 166 w wr) (hg : wr.heap[k0]? = some (.cells old 25 (0, 0))) (hk : Kept w0.heap.size 166 wr k0) (hk0 : w.heap.size ≤ k0) (hlt : w0.heap.size < w.heap.size) :
    LkRel w0 L Es b r k0 w (wr.setRow k0 (L.rcells r)) := by
  have hoff : ∀ j, j ≠ k0 → (wr.setRow k0 (L.rcells r)).heap[j]? = wr.heap[j]? := fun j hj => by
    unfold World.setRow
    simp only [Array.getElem?_modify]
    rw [if_neg (fun e => hj e.symm)]
  have hsz : (wr.setRow k0 (L.rcells r)).heap.size = wr.heap.size := by simp [World.setRow]
  have hB : Below k0 wr (wr.setRow k0 (L.rcells r)) := ⟨rfl, rfl, rfl, by rw [hsz]; exact Nat.le_refl _, fun j hj => hoff j (by omega)⟩
  obtain ⟨v, hv, ho⟩ := h.ex
  have hrow : rowB wr w0.heap.size 166 ≠ some k0 := hk.off
  have hc0 : wr.cell? ⟨w0.heap.size, 166, none⟩ = some v := by rw [cell_of_row wr _ _ _ _ _ hv]; exact more_row L [.int .i64 (b : Int)] v
  have hne : v.ownBlock ≠ some k0 := by
    intro e; apply hrow; simp only [rowB, hc0]; exact e
  refine ⟨⟨⟨v, by rw [hoff _ (by omega)]; exact hv, ?_⟩, h.low.trans (hB.mono (by omega))⟩, ?_, setRow_heap wr k0 _ _ _ _ hg⟩
  · refine ⟨ho.1, ?_⟩
    rcases ho.2 with hn | ⟨g, cap, cur, rfl, h1, h2, h3⟩
    · exact .inl hn
    · exact .inr ⟨g, cap, cur, rfl, h1, by rw [hoff _ (fun e => hne (by simp [Value.ownBlock, e]))]; exact h2, h3⟩
  · refine ⟨st.os, st.tape, st.output, by rw [hsz]; exact st.size, fun j hj hg1 hr1 => by rw [hoff j (by omega)]; exact st.block j hj hg1 hr1, ?_⟩
    have e : rowB (wr.setRow k0 (L.rcells r)) w0.heap.size 166 = rowB wr w0.heap.size 166 := rowB_same (hoff _ (by omega))
    rw [e]; exact st.row

set_option maxRecDepth 100000 in
set_option maxHeartbeats 8000000 in
theorem tlook_any {w0 : World} {L : Ld} {Es : List Ev} {w : World} {b : Nat} (hS : Sn 52 [.int .i64 (b : Int)] w0 L Es w) (hf : Fine L) (hv : Vr w0) (hb : b < 6) (hlen : Es.length ≤ 900000) :
    Calls Tryz.prog 13 #[.pointer (some ⟨w0.heap.size, 0, none⟩)] w fun e w' => e = .returned (.tuple #[]) ∧ Sn 52 [.int .i64 (b : Int)] w0 L (Es ++ lookE L b) w' ∧ Stp w0.heap.size 166 w w' := by
  obtain ⟨r, hr, er⟩ := hf.room b hb
  have HF := hide hf
  have HV := hide hv
  have HER := hide er
  have hbi : (b : Int) < 6 := by omega
  have hri : (r : Int) < 6 := by omega
  have HS0 := hide hS
  clear hS hf hv er
  go_enter Tryz.func13, Tryz.ntmps13
  go_wp2_with fail
  refine wp_region_held (S := fun W => Sn 52 [.int .i64 (b : Int)] w0 L Es W ∧ Below w.heap.size w W) (by kernel_rfl) ?_
  have HS : Sn 52 [.int .i64 (b : Int)] w0 L Es w.drew ∧ Below w.heap.size w w.drew := ⟨HS0.out.drew, (Below.refl _ _).drew⟩
  have hl0 := HS0.out.lt
  clear HS0
  change wpAnyH _ _ _ _ _ _ _ _ w.drew
  generalize w.drew = W0 at HS ⊢
  refine tw (i := 0) (d := some 7) (fuel := 7) (v := ?_) rfl rfl ?_ HS ?_
  rotate_left
  · intro W hW; go_simp; try with_reducible rfl
  simp only [Act.put, sT, List.set]
  refine tw (i := 1) (d := some 8) (fuel := 6) (v := ?_) rfl rfl ?_ HS ?_
  rotate_left
  · intro W hW; go_simp; try with_reducible rfl
  simp only [Act.put, sT, List.set]
  refine tw (i := 2) (d := some 9) (fuel := 5) (v := ?_) rfl rfl ?_ HS ?_
  rotate_left
  · intro W hW; go_simp; try with_reducible rfl
  simp only [Act.put, sT, List.set]
  refine tk (i := 3) (d := some 10) (fuel := 4) (v := .agg L.cells) rfl rfl (Or.inl ⟨by rfl, fun W hW => exec_scene (.tmp 9) rfl rfl hW.1⟩) HS ?_
  simp only [Act.put, sT, List.set]
  refine tw (i := 4) (d := some 11) (fuel := 3) (v := ?_) rfl rfl ?_ HS ?_
  rotate_left
  · intro W hW; go_simp; try with_reducible rfl
  simp only [Act.put, sT, List.set]
  refine wpAnyH_all (fuel := 2) (rs := [5]) (by kernel_rfl) (by simp) ?_
  intro i hi
  obtain rfl : i = 5 := by simpa using hi
  clear hi
  refine call_at (d := some 12) rfl rfl (by rfl) 47 #[.pointer (some ⟨w0.heap.size, 0, none⟩)] (by kernel_rfl) ?_
  refine (there_any HS.1 hb).mono ?_
  rintro e x1 ⟨rfl, n1, hx1⟩
  have S1 : Sn 52 [.int .i64 (b : Int)] w0 L Es x1 ∧ Below w.heap.size w x1 := by rw [hx1]; exact ⟨HS.1.drewN n1, below_drewN HS.2 n1⟩
  clear hx1 HS
  refine ⟨_, rfl, S1, ?_⟩
  simp only [Act.put, sT, List.set]
  refine wpAnyH_all (fuel := 1) (rs := [6]) (by kernel_rfl) (by simp) ?_
  intro i hi
  obtain rfl : i = 6 := by simpa using hi
  clear hi
  refine call_at (d := some 13) rfl rfl (by rfl) 48 #[.agg L.cells, .int .i64 (L.room b)] (by kernel_rfl) ?_
  refine (isbright_any L (L.room b) _).mono ?_
  rintro e x2 ⟨rfl, hb2⟩
  have S2 : Sn 52 [.int .i64 (b : Int)] w0 L Es x2 ∧ Below w.heap.size w x2 := ⟨S1.1.below hb2, S1.2.trans (hb2.mono S1.2.size)⟩
  clear hb2 S1
  refine ⟨_, rfl, S2, ?_⟩
  simp only [Act.put, sT, List.set]
  refine tw (i := 7) (d := some 14) (fuel := 0) (v := ?_) rfl rfl ?_ S2 ?_
  rotate_left
  · intro W hW; go_simp; try with_reducible rfl
  simp only [Act.put, sT, List.set]
  refine wpAnyH_done (by kernel_rfl) ?_ _
  have S3 := hide S2.1
  have T3 : Hid (Stp w0.heap.size 166 w x2) := Stp.below S2.2 hl0
  clear S2
  cases hx : brightL L (L.room b) with
  | false =>
    have HE := hide (show lookE L b = [tellE L b darkS] by unfold lookE; rw [if_neg (by simp [hx])])
    clear hx
    go_wp2_with fail
    refine (ttell_any S3.out hb _ (by omega)).mono ?_
    rintro e w4 ⟨rfl, S4h, T4h⟩
    have A := hide S4h
    have B := hide (T3.out.trans T4h)
    clear S4h T4h
    go_wp2
    exact bodyPost_ret (v := .tuple #[]) (results_none rfl _ _ _) rfl ⟨rfl, by rw [HE.out]; exact A.out, B.out⟩
  | true =>
    have HE := hide (show lookE L b = [tellE L b (theS ++ L.rname r ++ dotT), tellE L b (waysS ++ waysK L r 6)] ++ (if sightL L b = [] then [] else [tellE L b (hereS ++ listedT L (sightL L b))]) ++ othersK L b 6 by
      unfold lookE; rw [if_pos hx, HER.out]; rfl)
    clear hx
    go_upto_region 2 with fail
    go_cut [2] (fun p wc => ∃ k0, p = .pointer (some ⟨k0, 0, none⟩) ∧ w.heap.size ≤ k0 ∧ LkRel w0 L Es b r k0 w wc)
    case first =>
      refine wp_region_held (S := fun W => Sn 52 [.int .i64 (b : Int)] w0 L Es W) (by kernel_rfl) ?_
      have HS := S3.out.drew
      have T4 : Hid (Stp w0.heap.size 166 w x2.drew) := T3.out.trans (S3.out.stp (below_drewN (Below.refl _ _) 1) 166)
      have hle := T3.out.size
      clear S3 T3
      change wpAnyH _ _ _ _ _ _ _ _ x2.drew
      have hle2 : w.heap.size ≤ x2.drew.heap.size := hle
      generalize x2.drew = W0 at HS T4 hle2 ⊢
      clear hle
      refine tw (i := 0) (d := some 17) (fuel := 9) (v := ?_) rfl rfl ?_ HS ?_
      rotate_left
      · intro W hW; go_simp; try with_reducible rfl
      simp only [Act.put, sT, List.set]
      refine tw (i := 1) (d := some 18) (fuel := 8) (v := ?_) rfl rfl ?_ HS ?_
      rotate_left
      · intro W hW; go_simp; try with_reducible rfl
      simp only [Act.put, sT, List.set]
      refine tw (i := 3) (d := some 20) (fuel := 7) (v := ?_) rfl rfl ?_ HS ?_
      rotate_left
      · intro W hW; go_simp; try with_reducible rfl
      simp only [Act.put, sT, List.set]
      refine tw (i := 4) (d := some 21) (fuel := 6) (v := ?_) rfl rfl ?_ HS ?_
      rotate_left
      · intro W hW; go_simp; try with_reducible rfl
      simp only [Act.put, sT, List.set]
      refine tw (i := 5) (d := some 22) (fuel := 5) (v := ?_) rfl rfl ?_ HS ?_
      rotate_left
      · intro W hW; go_simp; try with_reducible rfl
      simp only [Act.put, sT, List.set]
      refine wpAnyH_all (fuel := 4) (rs := [2, 8]) (by kernel_rfl) (by simp) ?_
      intro i hi
      rcases (show i = 2 ∨ i = 8 by simpa using hi) with rfl | rfl
      · clear hi
        refine call_at (d := some 19) rfl rfl (by rfl) 47 #[.pointer (some ⟨w0.heap.size, 0, none⟩)] (by kernel_rfl) ?_
        refine (there_any HS hb).mono ?_
        rintro e x1 ⟨rfl, n1, hx1⟩
        rw [HER.out]
        have S1 : Sn 52 [.int .i64 (b : Int)] w0 L Es x1 := by rw [hx1]; exact HS.drewN n1
        have T1 : Hid (Stp w0.heap.size 166 w x1) := by rw [hx1]; exact T4.out.trans (HS.stp (below_drewN (Below.refl _ _) n1) 166)
        have hle1 : w.heap.size ≤ x1.heap.size := by rw [hx1]; exact hle2
        clear hx1 HS T4 hle2
        refine ⟨_, rfl, S1, ?_⟩
        simp only [Act.put, sT, List.set]
        refine tw (i := 6) (d := some 23) (fuel := 3) (v := ?_) rfl rfl ?_ S1 ?_
        rotate_left
        · intro W hW; go_simp; try with_reducible rfl
        simp only [Act.put, sT, List.set]
        refine tk (i := 7) (d := some 24) (fuel := 2) (v := .agg (L.rcells r)) rfl rfl (Or.inl ⟨by rfl, fun W hW => exec_sroom (.tmp 23) rfl r hr rfl hW⟩) S1 ?_
        simp only [Act.put, sT, List.set]
        refine wpAnyH_all (fuel := 1) (rs := [8]) (by kernel_rfl) (by simp) ?_
        intro i hi
        obtain rfl : i = 8 := by simpa using hi
        clear hi
        refine run_at (d := some 2) (v := .pointer (some ⟨x1.heap.size, 0, none⟩)) (w' := x1.alloc (.cells zroom 25)) rfl rfl (by rfl) (exec_allocroom rfl) ?_
        refine ⟨S1.alloc _, ?_⟩
        simp only [Act.put, sT, List.set]
        refine wpAnyH_all (fuel := 0) (rs := [9]) (by kernel_rfl) (by simp) ?_
        intro i hi
        obtain rfl : i = 9 := by simpa using hi
        clear hi
        refine skip_at (d := none) (w' := (x1.alloc (.cells zroom 25)).setRow x1.heap.size (L.rcells r)) rfl rfl (by rfl) (exec_storeroom (.tmp 2) (.tmp 24) rfl rfl rfl (heap_alloc_new x1 _) rfl) ?_
        have R := hide (lk_set (r := r) (S1.alloc (.cells zroom 25)) (T1.out.trans (S1.stp (below_box x1 _) 166)) (heap_alloc_new x1 _) (S1.kept (below_box x1 _) (Nat.le_refl _) (by simp)) hle1 hl0)
        refine ⟨R.out.sn, ?_⟩
        simp only [Act.put]
        refine wpAnyH_done (by kernel_rfl) ?_ _
        go_wp2
        go_meet
        exact ⟨_, rfl, hle1, R.out⟩
      · clear hi
        refine run_at (d := some 2) (v := .pointer (some ⟨W0.heap.size, 0, none⟩)) (w' := W0.alloc (.cells zroom 25)) rfl rfl (by rfl) (exec_allocroom rfl) ?_
        refine ⟨HS.alloc _, ?_⟩
        simp only [Act.put, sT, List.set]
        refine wpAnyH_all (fuel := 3) (rs := [2]) (by kernel_rfl) (by simp) ?_
        intro i hi
        obtain rfl : i = 2 := by simpa using hi
        clear hi
        refine call_at (d := some 19) rfl rfl (by rfl) 47 #[.pointer (some ⟨w0.heap.size, 0, none⟩)] (by kernel_rfl) ?_
        refine (there_any (HS.alloc (.cells zroom 25)) hb).mono ?_
        rintro e x1 ⟨rfl, n1, hx1⟩
        rw [HER.out]
        have S1 : Sn 52 [.int .i64 (b : Int)] w0 L Es x1 := by rw [hx1]; exact (HS.alloc _).drewN n1
        have hg1 : x1.heap[W0.heap.size]? = some (.cells zroom 25 (0, 0)) := by rw [hx1]; exact heap_alloc_new W0 _
        have R := hide (lk_set (r := r) S1 (show Stp w0.heap.size 166 w x1 by rw [hx1]; exact T4.out.trans ((HS.stp (below_box W0 _) 166).trans ((HS.alloc _).stp (below_drewN (Below.refl _ _) n1) 166))) hg1 (by rw [hx1]; exact HS.kept (below_drewN (below_box W0 _) n1) (Nat.le_refl _) (by simp [World.drewN])) hle2 hl0)
        clear hx1 T4
        refine ⟨_, rfl, S1, ?_⟩
        simp only [Act.put, sT, List.set]
        refine tw (i := 6) (d := some 23) (fuel := 2) (v := ?_) rfl rfl ?_ S1 ?_
        rotate_left
        · intro W hW; go_simp; try with_reducible rfl
        simp only [Act.put, sT, List.set]
        refine tk (i := 7) (d := some 24) (fuel := 1) (v := .agg (L.rcells r)) rfl rfl (Or.inl ⟨by rfl, fun W hW => exec_sroom (.tmp 23) rfl r hr rfl hW⟩) S1 ?_
        simp only [Act.put, sT, List.set]
        refine wpAnyH_all (fuel := 0) (rs := [9]) (by kernel_rfl) (by simp) ?_
        intro i hi
        obtain rfl : i = 9 := by simpa using hi
        clear hi
        refine skip_at (d := none) (w' := x1.setRow W0.heap.size (L.rcells r)) rfl rfl (by rfl) (exec_storeroom (.tmp 2) (.tmp 24) rfl rfl rfl hg1 rfl) ?_
        refine ⟨R.out.sn, ?_⟩
        simp only [Act.put]
        refine wpAnyH_done (by kernel_rfl) ?_ _
        go_wp2
        go_meet
        exact ⟨_, rfl, hle2, R.out⟩
    case rest =>
      obtain ⟨k0, rfl, hk0, Rh⟩ := hcut
      have R4 := hide Rh
      clear Rh S3 T3
      have x0 : wc.cell? ⟨k0, 0, none⟩ = some (.string (L.rname r)) := by rw [cell_of_row _ _ _ _ _ _ R4.out.room]; rfl
      have x2 : ∀ d, d < 6 → wc.cell? ⟨k0, 2 + d, none⟩ = some (.int .i64 (L.exit r d)) := fun d hd => by
        rw [cell_of_row _ _ _ _ _ _ R4.out.room, L.rcells_get r (2 + d) (by omega), Nat.add_comm]; simp [Ld.roomCell, hd]
      have x8 : ∀ d, d < 6 → wc.cell? ⟨k0, 8 + d, none⟩ = some (.bool (L.shut r d)) := fun d hd => by
        rw [cell_of_row _ _ _ _ _ _ R4.out.room, L.rcells_get r (8 + d) (by omega), show 8 + d = (d + 6) + 2 by omega]; simp [Ld.roomCell]
      have xv : ∀ d, d < 6 → wc.cell? ⟨0, d, none⟩ = some (.string (bs (verbs.getD d []))) := fun d hd => (HV.out.below R4.out.sn.low (Nat.le_refl _)).cell d (by omega)
      have X2 := hide x2
      have X8 := hide x8
      have XV := hide xv
      clear x2 x8 xv
      go_wp2_with fail
      go_loop [3, 25] (fun t c => ∃ d : Nat, d ≤ 6 ∧ c = .int .i64 d ∧ t = .string (waysS ++ waysK L r d)) (fun _ c => 6 - (intOf c).toNat)
      case atStart => exact ⟨0, by omega, rfl, rfl⟩
      case round =>
        obtain ⟨d, hld, rfl, rfl⟩ := hrel
        by_cases hd : d < 6
        · have hdi : (d : Int) < 6 := by omega
          have c2 := X2.out d hd
          have c8 := X8.out d hd
          have cv := XV.out d hd
          have hcl : bs (calledI (d : Int)) = bs (verbs.getD d []) := by rw [calledI_nat]; unfold calledL; rw [if_pos hd]
          have hws := ways_size L r d (by omega)
          have hvz : (bs (verbs.getD d [])).size ≤ 5 := by
            rcases (show d = 0 ∨ d = 1 ∨ d = 2 ∨ d = 3 ∨ d = 4 ∨ d = 5 by omega) with e | e | e | e | e | e <;> rw [e] <;> decide
          have hs5 : waysS.size = 5 := rfl
          have hs1 : (⟨#[32]⟩ : ByteArray).size = 1 := rfl
          have hs2 : (⟨#[42]⟩ : ByteArray).size = 1 := rfl
          by_cases h0 : L.exit r d = 0
          · have HN := hide (show waysK L r (d + 1) = waysK L r d by simp only [waysK]; rw [if_pos h0])
            have hg : decide (0 < L.exit r d) = false := by rw [h0]; rfl
            clear h0 hcl
            generalize waysK L r d = A at *
            generalize verbs.getD d [] = V at *
            go_wp2
            exact ⟨⟨d + 1, by omega, by go_num, by rw [HN.out]⟩, by simp [intOf]; omega⟩
          · have hg : decide (0 < L.exit r d) = true := by
              rcases HF.out.exit r d hr hd with h | ⟨t, _, h⟩
              · exact absurd h h0
              · rw [h]; exact decide_eq_true (by omega)
            have HN := hide (show waysS ++ waysK L r (d + 1) = waysS ++ waysK L r d ++ (⟨#[32]⟩ ++ bs (verbs.getD d [])) ++ starT (L.shut r d) by simp only [waysK]; rw [if_neg h0, hcl]; simp only [ByteArray.append_assoc])
            clear h0 hcl
            cases h8 : L.shut r d with
            | true =>
              have HN2 := hide (show waysS ++ waysK L r (d + 1) = (waysS ++ waysK L r d ++ (⟨#[32]⟩ ++ bs (verbs.getD d []))) ++ ⟨#[42]⟩ by rw [HN.out, h8]; rfl)
              rw [h8] at c8
              clear h8 HN
              have hsz : (waysS ++ waysK L r d).size ≤ 100 := by rw [ByteArray.size_append]; omega
              generalize waysS ++ waysK L r d = A at *
              generalize verbs.getD d [] = V at *
              go_wp2
              exact ⟨⟨d + 1, by omega, by go_num, by rw [HN2.out]⟩, by simp [intOf]; omega⟩
            | false =>
              have HN2 := hide (show waysS ++ waysK L r (d + 1) = waysS ++ waysK L r d ++ (⟨#[32]⟩ ++ bs (verbs.getD d [])) by rw [HN.out, h8]; exact ba_nil_r _)
              rw [h8] at c8
              clear h8 HN
              have hsz : (waysS ++ waysK L r d).size ≤ 100 := by rw [ByteArray.size_append]; omega
              generalize waysS ++ waysK L r d = A at *
              generalize verbs.getD d [] = V at *
              go_wp2
              exact ⟨⟨d + 1, by omega, by go_num, by rw [HN2.out]⟩, by simp [intOf]; omega⟩
        · have hd6 : d = 6 := by omega
          subst hd6
          have hs0 := HF.out.rname r hr
          have hs4 : (⟨#[84, 104, 101, 32]⟩ : ByteArray).size = 4 := rfl
          generalize hA : waysS ++ waysK L r 6 = A at *
          have HA := hide hA
          clear hA X2 X8 XV
          go_wp2_with fail
          refine (ttell_any R4.out.sn hb _ (by omega)).mono ?_
          rintro e w5 ⟨rfl, S5h, T5h⟩
          have S5 := hide S5h
          have T5 := hide (R4.out.st.trans T5h)
          clear S5h T5h R4 x0
          go_wp2_with fail
          refine (ttell_any S5.out hb _ (by simp only [List.length_append, List.length_cons, List.length_nil]; omega)).mono ?_
          rintro e w6 ⟨rfl, S6h, T6h⟩
          have S6 := hide S6h
          have T6 := hide (T5.out.trans T6h)
          clear S6h T6h S5 T5
          go_wp2_with fail
          refine (insight_any S6.out hb).mono ?_
          rintro e w7 ⟨v, rfl, ho, hb7⟩
          have S7 := hide (S6.out.below hb7)
          have T7 := hide (T6.out.trans (S6.out.stp hb7 166))
          have N7 := hide (numk_own S6.out hb7 ho)
          obtain ⟨av, cap, rfl⟩ := ho.shape
          clear ho hb7 S6 T6
          by_cases h0 : sightL L b = []
          · have hz : (sightL L b).length = 0 := by rw [h0]; rfl
            have HE2 := hide (show lookE L b = ([tellE L b (theS ++ L.rname r ++ dotT), tellE L b A] ++ []) ++ othersK L b 6 by rw [HE.out, if_pos h0])
            rw [hz]
            clear h0 hz HE N7
            go_wp2_with fail
            go_loopw [66] (fun c wr => ∃ k : Nat, k ≤ 6 ∧ c = .int .i64 k ∧ Sn 52 [.int .i64 (b : Int)] w0 L (((Es ++ [tellE L b (theS ++ L.rname r ++ dotT)]) ++ [tellE L b A]) ++ othersK L b k) wr ∧ Stp w0.heap.size 166 w wr) (fun c _ => 6 - (intOf c).toNat)
            case atStart => exact ⟨0, by omega, rfl, by simp only [othersK, List.range_zero, List.filter_nil, List.map_nil, List.append_nil]; exact S7.out, T7.out⟩
            case round =>
              obtain ⟨k, hle, rfl, Rh, Th⟩ := hrel
              have R := hide Rh
              have TT := hide Th
              clear Rh Th S7 T7
              by_cases hk : k < 6
              · have hki : (k : Int) < 6 := by omega
                by_cases hkb : k = b
                · have hne : ((k : Int) != (b : Int)) = false := by simp [hkb]
                  have HN := hide (others_no (L := L) (b := b) (k := k) (by simp [seesO, hkb]))
                  have cb : wr.cell? ⟨w0.heap.size, 165, none⟩ = some (.int .i64 (b : Int)) := R.out.fore 0 (by simp)
                  clear hkb
                  go_wp2_with fail
                  go_quiet (fail)
                  go_wp2
                  go_roundw
                  case rel => exact ⟨k + 1, by omega, by go_num, by rw [HN.out]; exact R.out.drewN _, TT.out.trans (R.out.stp (below_drewN (Below.refl _ _) _) 166)⟩
                  case measure => simp [intOf]; omega
                · have hne : ((k : Int) != (b : Int)) = true := by simp; omega
                  have HSO := hide (show seesO L b k = seesL L (b : Int) (k : Int) by simp [seesO, hkb])
                  have HS := R.out.drew
                  have T1 : Hid (Stp w0.heap.size 166 w wr.drew) := TT.out.trans (R.out.stp (below_drewN (Below.refl _ _) 1) 166)
                  clear hkb R TT
                  go_wp2_with fail
                  refine wp_region_held (S := fun W => Sn 52 [.int .i64 (b : Int)] w0 L (((Es ++ [tellE L b (theS ++ L.rname r ++ dotT)]) ++ [tellE L b A]) ++ othersK L b k) W) (by kernel_rfl) ?_
                  change wpAnyH _ _ _ _ _ _ _ _ wr.drew
                  generalize wr.drew = W1 at HS T1 ⊢
                  refine tw (i := 0) (d := some 69) (fuel := 17) (v := ?_) rfl rfl ?_ HS ?_
                  rotate_left
                  · intro W hW; go_simp; try with_reducible rfl
                  simp only [Act.put, sT, List.set]
                  refine tw (i := 1) (d := some 70) (fuel := 16) (v := ?_) rfl rfl ?_ HS ?_
                  rotate_left
                  · intro W hW; go_simp; try with_reducible rfl
                  simp only [Act.put, sT, List.set]
                  refine tw (i := 2) (d := some 71) (fuel := 15) (v := ?_) rfl rfl ?_ HS ?_
                  rotate_left
                  · intro W hW; go_simp; try with_reducible rfl
                  simp only [Act.put, sT, List.set]
                  refine tw (i := 3) (d := some 72) (fuel := 14) (v := ?_) rfl rfl ?_ HS ?_
                  rotate_left
                  · intro W hW; go_simp; try with_reducible rfl
                  simp only [Act.put, sT, List.set]
                  refine tw (i := 4) (d := some 73) (fuel := 13) (v := ?_) rfl rfl ?_ HS ?_
                  rotate_left
                  · intro W hW
                    have hcb := hW.fore 0 (by simp)
                    simp only [Nat.add_zero, List.getElem_cons_zero] at hcb
                    go_simp
                    try with_reducible rfl
                  simp only [Act.put, sT, List.set]
                  refine tw (i := 5) (d := some 74) (fuel := 12) (v := ?_) rfl rfl ?_ HS ?_
                  rotate_left
                  · intro W hW; go_simp; try with_reducible rfl
                  simp only [Act.put, sT, List.set]
                  refine tw (i := 6) (d := some 75) (fuel := 11) (v := ?_) rfl rfl ?_ HS ?_
                  rotate_left
                  · intro W hW; go_simp; try with_reducible rfl
                  simp only [Act.put, sT, List.set]
                  refine tw (i := 7) (d := some 76) (fuel := 10) (v := ?_) rfl rfl ?_ HS ?_
                  rotate_left
                  · intro W hW; go_simp; try with_reducible rfl
                  simp only [Act.put, sT, List.set]
                  refine tw (i := 8) (d := some 77) (fuel := 9) (v := ?_) rfl rfl ?_ HS ?_
                  rotate_left
                  · intro W hW; go_simp; try with_reducible rfl
                  simp only [Act.put, sT, List.set]
                  refine tw (i := 9) (d := some 78) (fuel := 8) (v := ?_) rfl rfl ?_ HS ?_
                  rotate_left
                  · intro W hW; go_simp; try with_reducible rfl
                  simp only [Act.put, sT, List.set]
                  refine tk (i := 10) (d := some 79) (fuel := 7) (v := .agg L.cells) rfl rfl (Or.inl ⟨by rfl, fun W hW => exec_scene (.tmp 78) rfl rfl hW⟩) HS ?_
                  simp only [Act.put, sT, List.set]
                  refine tw (i := 11) (d := some 80) (fuel := 6) (v := ?_) rfl rfl ?_ HS ?_
                  rotate_left
                  · intro W hW; go_simp; try with_reducible rfl
                  simp only [Act.put, sT, List.set]
                  refine tw (i := 12) (d := some 81) (fuel := 5) (v := ?_) rfl rfl ?_ HS ?_
                  rotate_left
                  · intro W hW; go_simp; try with_reducible rfl
                  simp only [Act.put, sT, List.set]
                  refine tw (i := 13) (d := some 82) (fuel := 4) (v := ?_) rfl rfl ?_ HS ?_
                  rotate_left
                  · intro W hW; go_simp; try with_reducible rfl
                  simp only [Act.put, sT, List.set]
                  refine tw (i := 14) (d := some 83) (fuel := 3) (v := ?_) rfl rfl ?_ HS ?_
                  rotate_left
                  · intro W hW
                    have hcb := hW.fore 0 (by simp)
                    simp only [Nat.add_zero, List.getElem_cons_zero] at hcb
                    go_simp
                    try with_reducible rfl
                  simp only [Act.put, sT, List.set]
                  refine tw (i := 15) (d := some 84) (fuel := 2) (v := ?_) rfl rfl ?_ HS ?_
                  rotate_left
                  · intro W hW; go_simp; try with_reducible rfl
                  simp only [Act.put, sT, List.set]
                  refine wpAnyH_all (fuel := 1) (rs := [16]) (by kernel_rfl) (by simp) ?_
                  intro i hi
                  obtain rfl : i = 16 := by simpa using hi
                  clear hi
                  refine call_at (d := some 85) rfl rfl (by rfl) 50 #[.agg L.cells, .int .i64 (b : Int), .int .i64 (k : Int)] (by kernel_rfl) ?_
                  refine (isseen_any L (b : Int) (k : Int) _).mono ?_
                  rintro e y2 ⟨rfl, hb2⟩
                  have S2 := HS.below hb2
                  have T2 := hide (T1.out.trans (HS.stp hb2 166))
                  clear hb2 HS T1
                  refine ⟨_, rfl, S2, ?_⟩
                  simp only [Act.put, sT, List.set]
                  refine tw (i := 17) (d := some 86) (fuel := 0) (v := ?_) rfl rfl ?_ S2 ?_
                  rotate_left
                  · intro W hW; go_simp; try with_reducible rfl
                  simp only [Act.put, sT, List.set]
                  refine wpAnyH_done (by kernel_rfl) ?_ _
                  have R2 := hide S2
                  clear S2
                  cases hx : seesL L (b : Int) (k : Int) with
                  | false =>
                    have HN := hide (others_no (L := L) (b := b) (k := k) (by rw [HSO.out]; exact hx))
                    clear hx
                    go_wp2
                    go_roundw
                    case rel => exact ⟨k + 1, by omega, by go_num, by rw [HN.out]; exact R2.out, T2.out⟩
                    case measure => simp [intOf]; omega
                  | true =>
                    have HN := hide (others_yes (L := L) (b := b) (k := k) (by rw [HSO.out]; exact hx))
                    clear hx
                    have c0 := R2.out.being k 0 hk (by omega)
                    simp only [Nat.add_zero, Ld.beingCell] at c0
                    have hs0 := HF.out.bname k hk
                    have hs9 : (⟨#[32, 105, 115, 32, 104, 101, 114, 101, 46]⟩ : ByteArray).size = 9 := rfl
                    have hol := others_len L b k
                    go_wp2_with fail
                    refine (ttell_any R2.out hb _ (by simp only [List.length_append, List.length_cons, List.length_nil]; omega)).mono ?_
                    rintro e wb ⟨rfl, Sb, Tb⟩
                    have R3 := hide Sb
                    have T3 := hide (T2.out.trans Tb)
                    clear Sb Tb R2 T2 c0 hs0 hol
                    go_wp2
                    go_roundw
                    case rel => exact ⟨k + 1, by omega, by go_num, by rw [HN.out, ← List.append_assoc]; exact R3.out, T3.out⟩
                    case measure => simp [intOf]; omega
              · have hk6 : k = 6 := by omega
                subst hk6
                go_wp2
                go_end0
                exact ⟨rfl, by rw [HE2.out]; simpa only [List.append_assoc, List.append_nil, List.cons_append, List.nil_append] using R.out, TT.out⟩
          · have hz : 0 < (sightL L b).length := List.length_pos_iff.2 h0
            have hz2 := sight_len L b
            have HE2 := hide (show lookE L b = ([tellE L b (theS ++ L.rname r ++ dotT), tellE L b A] ++ [tellE L b (hereS ++ listedT L (sightL L b))]) ++ othersK L b 6 by rw [HE.out, if_neg h0])
            clear h0 HE
            have hzi : decide ((0 : Int) < ((sightL L b).length : Int)) = true := by simp; omega
            go_wp2_with fail
            refine (tnamed_any S7.out HF.out N7.out (fun x hx => sight_lt hx) (by omega)).mono ?_
            rintro e w8 ⟨rfl, hb8⟩
            have S8 := hide (S7.out.below hb8)
            have T8 := hide (T7.out.trans (S7.out.stp hb8 166))
            clear hb8 S7 T7 N7
            have hs7 : (listedT L (sightL L b)).size ≤ 30000000 := by
              unfold listedT
              have h1 : dotT.size = 1 := rfl
              have h2 : nothingT.size = 8 := rfl
              have h3 := names_size HF.out (sightL L b) (fun x hx => sight_lt hx)
              have h4 : (sightL L b).length * 1048578 ≤ 9 * 1048578 := Nat.mul_le_mul_right _ hz2
              split <;> simp only [ByteArray.size_append] <;> omega
            have hs8 : (⟨#[72, 101, 114, 101, 32, 105, 115]⟩ : ByteArray).size = 7 := rfl
            generalize hB : listedT L (sightL L b) = B at *
            have HB := hide hB
            clear hB
            go_wp2_with fail
            refine (ttell_any S8.out hb (hereS ++ B) (by simp only [List.length_append, List.length_cons, List.length_nil]; omega)).mono ?_
            rintro e w9 ⟨rfl, S9h, T9h⟩
            have S7 := hide S9h
            have T7 := hide (T8.out.trans T9h)
            clear S9h T9h S8 T8
            go_wp2_with fail
            go_loopw [66] (fun c wr => ∃ k : Nat, k ≤ 6 ∧ c = .int .i64 k ∧ Sn 52 [.int .i64 (b : Int)] w0 L ((((Es ++ [tellE L b (theS ++ L.rname r ++ dotT)]) ++ [tellE L b A]) ++ [tellE L b (hereS ++ B)]) ++ othersK L b k) wr ∧ Stp w0.heap.size 166 w wr) (fun c _ => 6 - (intOf c).toNat)
            case atStart => exact ⟨0, by omega, rfl, by simp only [othersK, List.range_zero, List.filter_nil, List.map_nil, List.append_nil]; exact S7.out, T7.out⟩
            case round =>
              obtain ⟨k, hle, rfl, Rh, Th⟩ := hrel
              have R := hide Rh
              have TT := hide Th
              clear Rh Th S7 T7
              by_cases hk : k < 6
              · have hki : (k : Int) < 6 := by omega
                by_cases hkb : k = b
                · have hne : ((k : Int) != (b : Int)) = false := by simp [hkb]
                  have HN := hide (others_no (L := L) (b := b) (k := k) (by simp [seesO, hkb]))
                  have cb : wr.cell? ⟨w0.heap.size, 165, none⟩ = some (.int .i64 (b : Int)) := R.out.fore 0 (by simp)
                  clear hkb
                  go_wp2_with fail
                  go_quiet (fail)
                  go_wp2
                  go_roundw
                  case rel => exact ⟨k + 1, by omega, by go_num, by rw [HN.out]; exact R.out.drewN _, TT.out.trans (R.out.stp (below_drewN (Below.refl _ _) _) 166)⟩
                  case measure => simp [intOf]; omega
                · have hne : ((k : Int) != (b : Int)) = true := by simp; omega
                  have HSO := hide (show seesO L b k = seesL L (b : Int) (k : Int) by simp [seesO, hkb])
                  have HS := R.out.drew
                  have T1 : Hid (Stp w0.heap.size 166 w wr.drew) := TT.out.trans (R.out.stp (below_drewN (Below.refl _ _) 1) 166)
                  clear hkb R TT
                  go_wp2_with fail
                  refine wp_region_held (S := fun W => Sn 52 [.int .i64 (b : Int)] w0 L ((((Es ++ [tellE L b (theS ++ L.rname r ++ dotT)]) ++ [tellE L b A]) ++ [tellE L b (hereS ++ B)]) ++ othersK L b k) W) (by kernel_rfl) ?_
                  change wpAnyH _ _ _ _ _ _ _ _ wr.drew
                  generalize wr.drew = W1 at HS T1 ⊢
                  refine tw (i := 0) (d := some 69) (fuel := 17) (v := ?_) rfl rfl ?_ HS ?_
                  rotate_left
                  · intro W hW; go_simp; try with_reducible rfl
                  simp only [Act.put, sT, List.set]
                  refine tw (i := 1) (d := some 70) (fuel := 16) (v := ?_) rfl rfl ?_ HS ?_
                  rotate_left
                  · intro W hW; go_simp; try with_reducible rfl
                  simp only [Act.put, sT, List.set]
                  refine tw (i := 2) (d := some 71) (fuel := 15) (v := ?_) rfl rfl ?_ HS ?_
                  rotate_left
                  · intro W hW; go_simp; try with_reducible rfl
                  simp only [Act.put, sT, List.set]
                  refine tw (i := 3) (d := some 72) (fuel := 14) (v := ?_) rfl rfl ?_ HS ?_
                  rotate_left
                  · intro W hW; go_simp; try with_reducible rfl
                  simp only [Act.put, sT, List.set]
                  refine tw (i := 4) (d := some 73) (fuel := 13) (v := ?_) rfl rfl ?_ HS ?_
                  rotate_left
                  · intro W hW
                    have hcb := hW.fore 0 (by simp)
                    simp only [Nat.add_zero, List.getElem_cons_zero] at hcb
                    go_simp
                    try with_reducible rfl
                  simp only [Act.put, sT, List.set]
                  refine tw (i := 5) (d := some 74) (fuel := 12) (v := ?_) rfl rfl ?_ HS ?_
                  rotate_left
                  · intro W hW; go_simp; try with_reducible rfl
                  simp only [Act.put, sT, List.set]
                  refine tw (i := 6) (d := some 75) (fuel := 11) (v := ?_) rfl rfl ?_ HS ?_
                  rotate_left
                  · intro W hW; go_simp; try with_reducible rfl
                  simp only [Act.put, sT, List.set]
                  refine tw (i := 7) (d := some 76) (fuel := 10) (v := ?_) rfl rfl ?_ HS ?_
                  rotate_left
                  · intro W hW; go_simp; try with_reducible rfl
                  simp only [Act.put, sT, List.set]
                  refine tw (i := 8) (d := some 77) (fuel := 9) (v := ?_) rfl rfl ?_ HS ?_
                  rotate_left
                  · intro W hW; go_simp; try with_reducible rfl
                  simp only [Act.put, sT, List.set]
                  refine tw (i := 9) (d := some 78) (fuel := 8) (v := ?_) rfl rfl ?_ HS ?_
                  rotate_left
                  · intro W hW; go_simp; try with_reducible rfl
                  simp only [Act.put, sT, List.set]
                  refine tk (i := 10) (d := some 79) (fuel := 7) (v := .agg L.cells) rfl rfl (Or.inl ⟨by rfl, fun W hW => exec_scene (.tmp 78) rfl rfl hW⟩) HS ?_
                  simp only [Act.put, sT, List.set]
                  refine tw (i := 11) (d := some 80) (fuel := 6) (v := ?_) rfl rfl ?_ HS ?_
                  rotate_left
                  · intro W hW; go_simp; try with_reducible rfl
                  simp only [Act.put, sT, List.set]
                  refine tw (i := 12) (d := some 81) (fuel := 5) (v := ?_) rfl rfl ?_ HS ?_
                  rotate_left
                  · intro W hW; go_simp; try with_reducible rfl
                  simp only [Act.put, sT, List.set]
                  refine tw (i := 13) (d := some 82) (fuel := 4) (v := ?_) rfl rfl ?_ HS ?_
                  rotate_left
                  · intro W hW; go_simp; try with_reducible rfl
                  simp only [Act.put, sT, List.set]
                  refine tw (i := 14) (d := some 83) (fuel := 3) (v := ?_) rfl rfl ?_ HS ?_
                  rotate_left
                  · intro W hW
                    have hcb := hW.fore 0 (by simp)
                    simp only [Nat.add_zero, List.getElem_cons_zero] at hcb
                    go_simp
                    try with_reducible rfl
                  simp only [Act.put, sT, List.set]
                  refine tw (i := 15) (d := some 84) (fuel := 2) (v := ?_) rfl rfl ?_ HS ?_
                  rotate_left
                  · intro W hW; go_simp; try with_reducible rfl
                  simp only [Act.put, sT, List.set]
                  refine wpAnyH_all (fuel := 1) (rs := [16]) (by kernel_rfl) (by simp) ?_
                  intro i hi
                  obtain rfl : i = 16 := by simpa using hi
                  clear hi
                  refine call_at (d := some 85) rfl rfl (by rfl) 50 #[.agg L.cells, .int .i64 (b : Int), .int .i64 (k : Int)] (by kernel_rfl) ?_
                  refine (isseen_any L (b : Int) (k : Int) _).mono ?_
                  rintro e y2 ⟨rfl, hb2⟩
                  have S2 := HS.below hb2
                  have T2 := hide (T1.out.trans (HS.stp hb2 166))
                  clear hb2 HS T1
                  refine ⟨_, rfl, S2, ?_⟩
                  simp only [Act.put, sT, List.set]
                  refine tw (i := 17) (d := some 86) (fuel := 0) (v := ?_) rfl rfl ?_ S2 ?_
                  rotate_left
                  · intro W hW; go_simp; try with_reducible rfl
                  simp only [Act.put, sT, List.set]
                  refine wpAnyH_done (by kernel_rfl) ?_ _
                  have R2 := hide S2
                  clear S2
                  cases hx : seesL L (b : Int) (k : Int) with
                  | false =>
                    have HN := hide (others_no (L := L) (b := b) (k := k) (by rw [HSO.out]; exact hx))
                    clear hx
                    go_wp2
                    go_roundw
                    case rel => exact ⟨k + 1, by omega, by go_num, by rw [HN.out]; exact R2.out, T2.out⟩
                    case measure => simp [intOf]; omega
                  | true =>
                    have HN := hide (others_yes (L := L) (b := b) (k := k) (by rw [HSO.out]; exact hx))
                    clear hx
                    have c0 := R2.out.being k 0 hk (by omega)
                    simp only [Nat.add_zero, Ld.beingCell] at c0
                    have hs0 := HF.out.bname k hk
                    have hs9 : (⟨#[32, 105, 115, 32, 104, 101, 114, 101, 46]⟩ : ByteArray).size = 9 := rfl
                    have hol := others_len L b k
                    go_wp2_with fail
                    refine (ttell_any R2.out hb _ (by simp only [List.length_append, List.length_cons, List.length_nil]; omega)).mono ?_
                    rintro e wb ⟨rfl, Sb, Tb⟩
                    have R3 := hide Sb
                    have T3 := hide (T2.out.trans Tb)
                    clear Sb Tb R2 T2 c0 hs0 hol
                    go_wp2
                    go_roundw
                    case rel => exact ⟨k + 1, by omega, by go_num, by rw [HN.out, ← List.append_assoc]; exact R3.out, T3.out⟩
                    case measure => simp [intOf]; omega
              · have hk6 : k = 6 := by omega
                subst hk6
                go_wp2
                go_end0
                exact ⟨rfl, by rw [HE2.out]; simpa only [List.append_assoc, List.append_nil, List.cons_append, List.nil_append] using R.out, TT.out⟩
end Go.Proofs.YtaifjndkgfffpaaGreatDoor
