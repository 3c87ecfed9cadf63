/-
  RulesKeep: what it answers. Written by a program.
-/
import Derived.Test.YtaifjndkgfffpaaDoorRuKq
import Derived.Test.YtaifjndkgfffpaaDoorMgK
import Derived.Test.YtaifjndkgfffpaaDoorRuDo2
import Derived.Test.YtaifjndkgfffpaaDoorRuActs
namespace Go.Proofs.YtaifjndkgfffpaaDoor
open Go.RowKit
set_option linter.unusedVariables false

theorem run_neq_agg {w : World} {t : TypeId} {A B : Array Value} : (binOp .neq t (.agg A) (.agg B)).run Tryd.prog w = ((Op.equalIn 10000 t (.agg A) (.agg B)).run Tryd.prog w).andThen fun q w' => .ok (.bool !q) w' := by
  simp [binOp, Op.equal, Op.maxDepth]
theorem exec_neq {a : Act} {op : Oper} {w : World} (x y : Operand) (T t : TypeId) (ho : op.op = .binOp .neq T x y t) {A : Array Value} (hg : Tryd.prog.eqGuardType Tryd.prog.depth T = false) (he : (Op.equalIn 10000 T (.agg A) (.agg A)).run Tryd.prog w = .ok true w) (hx : a.eval x = .agg A) (hy : a.eval y = .agg A) :
    (execOp a.eval op).run Tryd.prog w = .ok (.value (.bool false)) w := by
  have hg2 : (eqGuard .neq T x y (.agg A) (.agg A)).run Tryd.prog w = .ok () w := by simp [eqGuard, hg]
  have he2 : (binOp .neq T (.agg A) (.agg A)).run Tryd.prog w = .ok (.bool false) w := by rw [run_neq_agg, he]; rfl
  unfold execOp
  simp only [ho, hx, hy, Sem.run_bind, hg2, he2, Result.andThen_ok, Sem.run_pure]
theorem Tryd.guardThing : Tryd.prog.eqGuardType Tryd.prog.depth 28 = false := by kernel_rfl
theorem Tryd.guardBeing : Tryd.prog.eqGuardType Tryd.prog.depth 31 = false := by kernel_rfl
theorem Tryd.guardInts6 : Tryd.prog.eqGuardType Tryd.prog.depth 22 = false := by kernel_rfl
theorem exec_neqints {a : Act} {op : Oper} {w : World} (x y : Operand) (t : TypeId) (ho : op.op = .binOp .neq 22 x y t) {f : Nat → Int} (hx : a.eval x = .agg (ints f)) (hy : a.eval y = .agg (ints f)) :
    (execOp a.eval op).run Tryd.prog w = .ok (.value (.bool false)) w := exec_neq x y 22 t ho Tryd.guardInts6 (eqInts f 9998) hx hy
theorem wl_neqthing {ops : Array Oper} {rest : List Oper} {op : Oper} {a : Act} {w : World} {Q : Exit → Act → World → Prop} (x y : Operand) (t : TypeId) (ho : op.op = .binOp .neq 28 x y t) (hw : Region.wanted op (yielded ops a.tmps) = true) (L : Ld) (k : Nat)
    (hx : a.eval x = .agg (L.tcells k)) (hy : a.eval y = .agg (L.tcells k)) (h : wpList Tryd.prog ops Q rest (a.put op.dst (.bool false)) w) : wpList Tryd.prog ops Q (op :: rest) a w := by
  refine wl_wanted hw ?_
  unfold Oper.wp
  rw [exec_neq x y 28 t ho Tryd.guardThing (eqThing L k 9998) hx hy]
  exact h
theorem wl_neqbeing {ops : Array Oper} {rest : List Oper} {op : Oper} {a : Act} {w : World} {Q : Exit → Act → World → Prop} (x y : Operand) (t : TypeId) (ho : op.op = .binOp .neq 31 x y t) (hw : Region.wanted op (yielded ops a.tmps) = true) (L : Ld) (k : Nat)
    (hx : a.eval x = .agg (L.bcells k)) (hy : a.eval y = .agg (L.bcells k)) (h : wpList Tryd.prog ops Q rest (a.put op.dst (.bool false)) w) : wpList Tryd.prog ops Q (op :: rest) a w := by
  refine wl_wanted hw ?_
  unfold Oper.wp
  rw [exec_neq x y 31 t ho Tryd.guardBeing (eqBeing L k 9998) hx hy]
  exact h
theorem wl_eqlandK {ops : Array Oper} {rest : List Oper} {op : Oper} {a : Act} {w : World} {Q : Exit → Act → World → Prop} (x y : Operand) (t : TypeId) (ho : op.op = .binOp .eql 34 x y t) (hw : Region.wanted op (yielded ops a.tmps) = true) (L : Ld)
    (hx : a.eval x = .agg L.cells) (hy : a.eval y = .agg L.cells) (h : wpList Tryd.prog ops Q rest (a.put op.dst (.bool true)) w) : wpList Tryd.prog ops Q (op :: rest) a w := by
  refine wl_wanted hw ?_
  unfold Oper.wp
  rw [exec_eqland x y t ho hx hy]
  exact h
theorem Cod.exitsR {w : World} {b : Nat} {L : Ld} (h : Cod w b L) (r : Nat) (hr : r < 6) : w.rangeAt b (r * 14 + 2) (ints (L.exit r)).toList := by
  intro j v hv
  have hj : j < 6 := by
    have := (List.getElem?_eq_some_iff.1 hv).1; simpa [ints] using this
  rw [Array.getElem?_toList, ints_get _ j hj] at hv
  rw [show r * 14 + 2 + j = r * 14 + (2 + j) by omega, h.cell _ (by omega), L.at_room r (2 + j) hr (by omega), ← hv, Nat.add_comm 2 j]
  simp [Ld.roomCell, hj]
theorem exec_exits {a : Act} {op : Oper} {w : World} {L : Ld} {A : Array Value} {r0 : Nat} (he : ints (L.exit r0) = A) (x : Operand) (ho : op.op = .load 22 x) (b : Nat) (r : Nat) (hr : r < 6) (hrr : r = r0) (hx : a.eval x = .pointer (some ⟨b, r * 14 + 2, none⟩)) (hc : Cod w b L) : (execOp a.eval op).run Tryd.prog w = .ok (.value (.agg A)) w := by
  subst he hrr
  have := run_loadVar_mid (P := Tryd.prog) w b (r * 14 + 2) 22 (ints (L.exit r)).toList _ (hc.exitsR r hr) Tryd.underlying22 rfl Tryd.sizeInts
  rw [Array.toArray_toList] at this
  unfold execOp
  simp only [ho, hx, Instr.loadAt, Instr.sureAddr, Sem.run_bind, Sem.run_pure, Result.andThen_ok, this]
theorem wf_good {L : Ld} (hg : goodL L = true) : Wf L := by
  refine ⟨fun r d hr hd => ?_, fun b hb => ?_⟩
  · rcases good_exit hg r d hr hd with h | h
    · rw [h.1]; omega
    · have := amg_pos h.2; omega
  · rcases (good_being hg b hb).2.2.2.2 with h | h
    · rw [h]; omega
    · have := amg_pos h.2; omega
theorem two_low {B : Nat} {w wr : World} (h : Below B w wr) (hB : B ≤ wr.heap.size) (o o' : Obj) : Below B w ((wr.alloc o).alloc o').drew := ((h.alloc hB o).alloc (by simp; omega) o').drew
theorem refuses_none {L : Ld} {b v : Int} (h : refuses L b v = 0) : goodL L = true ∧ amg b 6 = true ∧ L.here b.toNat = true ∧ 0 ≤ v ∧ v ≤ 20 := by
  unfold refuses at h
  by_cases h1 : goodL L = false
  · rw [if_pos h1] at h; omega
  · rw [if_neg h1] at h
    by_cases h2 : amg b 6 = false
    · rw [if_pos h2] at h; omega
    · rw [if_neg h2] at h
      by_cases h3 : L.here b.toNat = false
      · rw [if_pos h3] at h; omega
      · rw [if_neg h3] at h
        by_cases h4 : v < 0 ∨ 20 < v
        · rw [if_pos h4] at h; omega
        · exact ⟨by simpa using h1, by simpa using h2, by simpa using h3, by omega, by omega⟩

set_option maxRecDepth 100000 in
set_option maxHeartbeats 8000000 in
theorem keepW (L : Ld) (b : Int) (O : Od) (wA : World) (hvb : Vb wA) (hwf : Wf L) (hn1 : ∀ r, r < 6 → (L.rname r).size ≤ 1048576) (hn2 : ∀ i, i < 9 → (L.tname i).size ≤ 1048576) (hn3 : ∀ b, b < 6 → (L.bname b).size ≤ 1048576) (hO : OdOk O) :
    Calls Tryd.prog 5 #[.agg L.cells, .int .i64 b, .agg O.cells] wA fun e wA' => e = .returned (.bool true) ∧ Below wA.heap.size wA wA' := by
  have hz := (zero_of_info Tryd.zLand).1
  have C0 := hide ((cod_new wA L).alloc (.cells O.cells 47))
  have B0 := hide ((below_box wA (.cells L.cells 34)).alloc (by simp) (.cells O.cells 47))
  have V0 := hide ((hvb.alloc (.cells L.cells 34)).alloc (.cells O.cells 47))
  have G0 := hide (heap_alloc_new (wA.alloc (.cells L.cells 34)) (.cells O.cells 47))
  have G0' : Hid (((wA.alloc (.cells L.cells 34)).alloc (.cells O.cells 47)).heap[wA.heap.size + 1]? = some (.cells O.cells 47 (0, 0))) := by
    have := G0.out
    rw [World.size_alloc] at this; exact this
  have HN := hide (And.intro hn1 (And.intro hn2 hn3))
  clear hvb hn1 hn2 hn3 G0
  go_enter Tryd.func5, Tryd.ntmps5
  go_wp2_with (first | (refine wl_land (.tmp 3) rfl rfl _ L rfl C0.out ?_) | (refine wl_wanted rfl (wp_load_row 47 (.tmp 5) rfl (wA.heap.size + 1) rfl 47 O.cells (0, 0) _ G0'.out Tryd.underlying47 rfl Tryd.sizeOrder ?_)))
  generalize (wA.alloc (.cells L.cells 34)).alloc (.cells O.cells 47) = w0 at *
  by_cases hr0 : refuses L b O.verb = 0
  · obtain ⟨hg, ha, hh, hv0, hv1⟩ := refuses_none hr0
    obtain ⟨h0, h6⟩ := amg_pos ha
    obtain ⟨k, rfl⟩ := Int.eq_ofNat_of_zero_le h0
    have hk : k < 6 := by omega
    have hki : (k : Int) < 6 := by omega
    have hh' : L.here k = true := by simpa using hh
    have hf := fine_of hg HN.out.1 HN.out.2.1 HN.out.2.2
    have HK := hide (act_kp hg hk hh' O hv0 hv1)
    refine (do_any L (actL L k O) (actE L k O) k O _ V0.out hwf hg hk hh' hv0 hv1 (fun w0 w hv hS => act_any hS hf hg hv k hk O hO hv0 hv1 (by simp))).mono ?_
    generalize actL L k O = X at *
    rintro e w2 ⟨v, rfl, ho, hb2⟩
    obtain ⟨av, cap, rfl⟩ := shapeE ho
    have C2 := hide ((C0.out.behind hb2 (Nat.le_refl _)).alloc (.cells X.cells 34))
    have X2 := hide (cod_new w2 X)
    have V2 := hide ((V0.out.below hb2 (Nat.le_refl _)).alloc (.cells X.cells 34))
    have B2 := hide ((B0.out.trans (hb2.mono B0.out.size)).alloc (by have := B0.out.size; have := hb2.size; omega) (.cells X.cells 34))
    clear ho hb2 hf hg hh hh' C0 B0 V0 hr0 ha h0 h6 HN G0' hv0 hv1
    go_wp2_with (refine wl_new 34 (.tmp 7) (.tmp 22) rfl rfl _ _ rfl rfl rfl (by rw [Ld.size]; exact Tryd.sizeLand) (by rw [Ld.size, Ld.size]) (land_one _) ?_)
    refine (kacts_any _ V2.out).mono ?_
    rintro e w3 ⟨rfl, hb3⟩
    have C3 := hide (C2.out.behind hb3 (Nat.le_refl _))
    have X3 := hide (X2.out.behind hb3 (Nat.le_refl _))
    have B3 := hide (B2.out.trans (hb3.mono B2.out.size))
    clear hb3 C2 X2 V2 B2
    go_wp2_with (refine wl_land (.tmp 7) rfl rfl _ X rfl X3.out ?_)
    refine (good_any X _ (wf_good HK.out.good)).mono ?_
    rintro e w4 ⟨rfl, hb4⟩
    rw [HK.out.good]
    have C4 := hide (C3.out.behind hb4 (Nat.le_refl _))
    have X4 := hide (X3.out.behind hb4 (Nat.le_refl _))
    have B4 := hide (B3.out.trans (hb4.mono B3.out.size))
    clear hb4 C3 X3 B3
    go_wp2_with fail
    go_loopw [45] (fun c wr => ∃ j : Nat, j ≤ 9 ∧ c = .int .i64 j ∧ Below w4.heap.size w4 wr) (fun c _ => 9 - (intOf c).toNat)
    case atStart => exact ⟨0, by omega, rfl, Below.refl _ _⟩
    case round =>
      obtain ⟨j, hlj, rfl, Rh⟩ := hrel
      have R := hide Rh
      clear Rh
      by_cases hj : j < 9
      · have hji : (j : Int) < 9 := by omega
        have CL := C4.out.behind R.out (Nat.le_refl _)
        have CX := X4.out.behind R.out (Nat.le_refl _)
        have a0 := CL.thing j 0 hj (by omega)
        have a1 := CL.thing j 1 hj (by omega)
        have a2 := CL.thing j 2 hj (by omega)
        have a3 := CL.thing j 3 hj (by omega)
        have a4 := CL.thing j 4 hj (by omega)
        have b0 := CX.thing j 0 hj (by omega)
        have b1 := CX.thing j 1 hj (by omega)
        have b2 := CX.thing j 2 hj (by omega)
        have b3 := CX.thing j 3 hj (by omega)
        have b4 := CX.thing j 4 hj (by omega)
        simp only [Ld.thingCell, Nat.add_zero] at a0 a1 a2 a3 a4 b0 b1 b2 b3 b4
        rw [HK.out.tname] at b0
        rw [HK.out.kind] at b1
        have hle1 := CL.lt
        have hle2 := CX.lt
        have hsz := R.out.size
        clear CL CX
        by_cases hw : L.wh j = 1 ∧ L.loc j ≠ (k : Int)
        · obtain ⟨e2, e3, e4⟩ := HK.out.thing j hj hw.1 hw.2
          rw [e2] at b2
          rw [e3] at b3
          rw [e4] at b4
          have hq1 : (L.wh j == 1) = true := by simp [hw.1]
          have hq2 : (L.loc j != (k : Int)) = true := by simp [hw.2]
          clear hw e2 e3 e4
          go_wp2_with fail
          go_region
          all_goals
            go_wp2_with (refine wl_neqthing (.tmp 78) (.tmp 79) 28 rfl rfl L j rfl rfl ?_)
            go_roundw
            case rel => exact ⟨j + 1, by omega, by go_num, two_low R.out hsz _ _⟩
            case measure => simp [intOf]; omega
        · have hw2 : (L.wh j == 1) = false ∨ ((L.wh j == 1) = true ∧ (L.loc j != (k : Int)) = false) := by
            by_cases h : L.wh j = 1
            · exact .inr ⟨by simp [h], by simpa using fun e => hw ⟨h, e⟩⟩
            · exact .inl (by simp [h])
          clear hw
          rcases hw2 with hq1 | ⟨hq1, hq2⟩
          all_goals
            go_wp2_with fail
            go_region
            all_goals
              go_wp2
              go_roundw
              case rel => exact ⟨j + 1, by omega, by go_num, two_low R.out hsz _ _⟩
              case measure => simp [intOf]; omega
      · have hj9 : j = 9 := by omega
        subst hj9
        go_wp2_with fail
        go_loopw [83] (fun c wr' => ∃ j : Nat, j ≤ 6 ∧ c = .int .i64 j ∧ Below w4.heap.size w4 wr') (fun c _ => 6 - (intOf c).toNat)
        case atStart => exact ⟨0, by omega, rfl, R.out⟩
        case round =>
          obtain ⟨j, hlj, rfl, Rh⟩ := hrel
          have R2 := hide Rh
          clear Rh R
          by_cases hj : j < 6
          · have hji : (j : Int) < 6 := by omega
            have CL := C4.out.behind R2.out (Nat.le_refl _)
            have CX := X4.out.behind R2.out (Nat.le_refl _)
            have a0 := CL.being j 0 hj (by omega)
            have a1 := CL.being j 1 hj (by omega)
            have a2 := CL.being j 2 hj (by omega)
            have a3 := CL.being j 3 hj (by omega)
            have a4 := CL.being j 4 hj (by omega)
            have a5 := CL.being j 5 hj (by omega)
            have b0 := CX.being j 0 hj (by omega)
            have b1 := CX.being j 1 hj (by omega)
            have b2 := CX.being j 2 hj (by omega)
            have b3 := CX.being j 3 hj (by omega)
            have b4 := CX.being j 4 hj (by omega)
            have b5 := CX.being j 5 hj (by omega)
            simp only [Ld.beingCell, Nat.add_zero] at a0 a1 a2 a3 a4 a5 b0 b1 b2 b3 b4 b5
            have hle1 := CL.lt
            have hle2 := CX.lt
            have hsz := R2.out.size
            clear CL CX
            by_cases hjk : j = k
            · have hq : ((j : Int) != (k : Int)) = false := by simp [hjk]
              clear hjk
              go_wp2_with fail
              go_region
              all_goals
                go_wp2
                go_roundw
                case rel => exact ⟨j + 1, by omega, by go_num, two_low R2.out hsz _ _⟩
                case measure => simp [intOf]; omega
            · have hq : ((j : Int) != (k : Int)) = true := by simp; omega
              obtain ⟨e0, e1, e2, e3, e4⟩ := HK.out.being j hj hjk
              rw [e0] at b0
              rw [e1] at b1
              rw [e2] at b2
              rw [e3] at b3
              rw [e4] at b4
              clear e0 e1 e2 e3 e4 hjk
              go_wp2_with fail
              go_region
              all_goals
                go_wp2_with (refine wl_neqbeing (.tmp 100) (.tmp 101) 31 rfl rfl { L with foe := fun _ => 0 } j rfl rfl ?_)
                go_roundw
                case rel => first | exact ⟨j + 1, by omega, by go_num, two_low R2.out hsz _ _⟩ | ((repeat apply Exists.intro); exact ⟨⟨j + 1, by omega, by go_num, two_low R2.out hsz _ _⟩, rfl⟩)
                case measure => simp [intOf]; omega
          · have hj6 : j = 6 := by omega
            subst hj6
            go_wp2_with fail
            go_loopw [105] (fun c wr' => ∃ j : Nat, j ≤ 6 ∧ c = .int .i64 j ∧ Below w4.heap.size w4 wr') (fun c _ => 6 - (intOf c).toNat)
            case atStart => exact ⟨0, by omega, rfl, R2.out⟩
            case round =>
              obtain ⟨j, hlj, rfl, Rh⟩ := hrel
              have R3 := hide Rh
              clear Rh R2
              by_cases hj : j < 6
              · have hji : (j : Int) < 6 := by omega
                have CL := C4.out.behind R3.out (Nat.le_refl _)
                have CX := X4.out.behind R3.out (Nat.le_refl _)
                have HR0 : Hid (L.cellAt (j * 14) = .string (L.rname j)) := by have := L.at_room j 0 hj (by omega); simpa [Ld.roomCell, Hid] using this
                have HR1 : Hid (L.cellAt (j * 14 + 1) = .bool (L.dark j)) := by have := L.at_room j 1 hj (by omega); simpa [Ld.roomCell, Hid] using this
                have HX0 : Hid (X.cellAt (j * 14) = .string (L.rname j)) := by have := X.at_room j 0 hj (by omega); simpa [Ld.roomCell, Hid, HK.out.rname] using this
                have HX1 : Hid (X.cellAt (j * 14 + 1) = .bool (L.dark j)) := by have := X.at_room j 1 hj (by omega); simpa [Ld.roomCell, Hid, HK.out.dark] using this
                have HXE := hide HK.out.exit
                have HS : Cod wr.drew wA.heap.size L ∧ Cod wr.drew w2.heap.size X := ⟨CL, CX⟩
                clear CL CX
                go_wp2_with fail
                refine wp_region_held (S := fun W => Cod W wA.heap.size L ∧ Cod W w2.heap.size X) (by kernel_rfl) ?_
                refine take_at (i := 0) (d := some 108) (fuel := 36) (v := ?_) rfl rfl (by kernel_rfl) (by kernel_rfl) (by kernel_rfl) (fun _ _ _ h => h) (Or.inl ⟨by rfl, ?_⟩) HS ?_
                rotate_left
                · intro W hW
                  obtain ⟨hWL, hWX⟩ := hW
                  have g0 := hWL.cell (j * 14) (by omega)
                  have g1 := hWL.cell (j * 14 + 1) (by omega)
                  have y0 := hWX.cell (j * 14) (by omega)
                  have y1 := hWX.cell (j * 14 + 1) (by omega)
                  rw [HR0.out] at g0
                  rw [HR1.out] at g1
                  rw [HX0.out] at y0
                  rw [HX1.out] at y1
                  go_simp
                  try with_reducible rfl
                simp only [Act.put, List.setIfInBounds_toArray, List.set]
                refine take_at (i := 1) (d := some 109) (fuel := 35) (v := ?_) rfl rfl (by kernel_rfl) (by kernel_rfl) (by kernel_rfl) (fun _ _ _ h => h) (Or.inl ⟨by rfl, ?_⟩) HS ?_
                rotate_left
                · intro W hW
                  obtain ⟨hWL, hWX⟩ := hW
                  have g0 := hWL.cell (j * 14) (by omega)
                  have g1 := hWL.cell (j * 14 + 1) (by omega)
                  have y0 := hWX.cell (j * 14) (by omega)
                  have y1 := hWX.cell (j * 14 + 1) (by omega)
                  rw [HR0.out] at g0
                  rw [HR1.out] at g1
                  rw [HX0.out] at y0
                  rw [HX1.out] at y1
                  go_simp
                  try with_reducible rfl
                simp only [Act.put, List.setIfInBounds_toArray, List.set]
                refine take_at (i := 2) (d := some 110) (fuel := 34) (v := ?_) rfl rfl (by kernel_rfl) (by kernel_rfl) (by kernel_rfl) (fun _ _ _ h => h) (Or.inl ⟨by rfl, ?_⟩) HS ?_
                rotate_left
                · intro W hW
                  obtain ⟨hWL, hWX⟩ := hW
                  have g0 := hWL.cell (j * 14) (by omega)
                  have g1 := hWL.cell (j * 14 + 1) (by omega)
                  have y0 := hWX.cell (j * 14) (by omega)
                  have y1 := hWX.cell (j * 14 + 1) (by omega)
                  rw [HR0.out] at g0
                  rw [HR1.out] at g1
                  rw [HX0.out] at y0
                  rw [HX1.out] at y1
                  go_simp
                  try with_reducible rfl
                simp only [Act.put, List.setIfInBounds_toArray, List.set]
                refine take_at (i := 3) (d := some 111) (fuel := 33) (v := ?_) rfl rfl (by kernel_rfl) (by kernel_rfl) (by kernel_rfl) (fun _ _ _ h => h) (Or.inl ⟨by rfl, ?_⟩) HS ?_
                rotate_left
                · intro W hW
                  obtain ⟨hWL, hWX⟩ := hW
                  have g0 := hWL.cell (j * 14) (by omega)
                  have g1 := hWL.cell (j * 14 + 1) (by omega)
                  have y0 := hWX.cell (j * 14) (by omega)
                  have y1 := hWX.cell (j * 14 + 1) (by omega)
                  rw [HR0.out] at g0
                  rw [HR1.out] at g1
                  rw [HX0.out] at y0
                  rw [HX1.out] at y1
                  go_simp
                  try with_reducible rfl
                simp only [Act.put, List.setIfInBounds_toArray, List.set]
                refine take_at (i := 4) (d := some 112) (fuel := 32) (v := ?_) rfl rfl (by kernel_rfl) (by kernel_rfl) (by kernel_rfl) (fun _ _ _ h => h) (Or.inl ⟨by rfl, ?_⟩) HS ?_
                rotate_left
                · intro W hW
                  obtain ⟨hWL, hWX⟩ := hW
                  have g0 := hWL.cell (j * 14) (by omega)
                  have g1 := hWL.cell (j * 14 + 1) (by omega)
                  have y0 := hWX.cell (j * 14) (by omega)
                  have y1 := hWX.cell (j * 14 + 1) (by omega)
                  rw [HR0.out] at g0
                  rw [HR1.out] at g1
                  rw [HX0.out] at y0
                  rw [HX1.out] at y1
                  go_simp
                  try with_reducible rfl
                simp only [Act.put, List.setIfInBounds_toArray, List.set]
                refine take_at (i := 5) (d := some 113) (fuel := 31) (v := ?_) rfl rfl (by kernel_rfl) (by kernel_rfl) (by kernel_rfl) (fun _ _ _ h => h) (Or.inl ⟨by rfl, ?_⟩) HS ?_
                rotate_left
                · intro W hW
                  obtain ⟨hWL, hWX⟩ := hW
                  have g0 := hWL.cell (j * 14) (by omega)
                  have g1 := hWL.cell (j * 14 + 1) (by omega)
                  have y0 := hWX.cell (j * 14) (by omega)
                  have y1 := hWX.cell (j * 14 + 1) (by omega)
                  rw [HR0.out] at g0
                  rw [HR1.out] at g1
                  rw [HX0.out] at y0
                  rw [HX1.out] at y1
                  go_simp
                  try with_reducible rfl
                simp only [Act.put, List.setIfInBounds_toArray, List.set]
                refine take_at (i := 6) (d := some 114) (fuel := 30) (v := ?_) rfl rfl (by kernel_rfl) (by kernel_rfl) (by kernel_rfl) (fun _ _ _ h => h) (Or.inl ⟨by rfl, ?_⟩) HS ?_
                rotate_left
                · intro W hW
                  obtain ⟨hWL, hWX⟩ := hW
                  have g0 := hWL.cell (j * 14) (by omega)
                  have g1 := hWL.cell (j * 14 + 1) (by omega)
                  have y0 := hWX.cell (j * 14) (by omega)
                  have y1 := hWX.cell (j * 14 + 1) (by omega)
                  rw [HR0.out] at g0
                  rw [HR1.out] at g1
                  rw [HX0.out] at y0
                  rw [HX1.out] at y1
                  go_simp
                  try with_reducible rfl
                simp only [Act.put, List.setIfInBounds_toArray, List.set]
                refine take_at (i := 7) (d := some 115) (fuel := 29) (v := ?_) rfl rfl (by kernel_rfl) (by kernel_rfl) (by kernel_rfl) (fun _ _ _ h => h) (Or.inl ⟨by rfl, ?_⟩) HS ?_
                rotate_left
                · intro W hW
                  obtain ⟨hWL, hWX⟩ := hW
                  have g0 := hWL.cell (j * 14) (by omega)
                  have g1 := hWL.cell (j * 14 + 1) (by omega)
                  have y0 := hWX.cell (j * 14) (by omega)
                  have y1 := hWX.cell (j * 14 + 1) (by omega)
                  rw [HR0.out] at g0
                  rw [HR1.out] at g1
                  rw [HX0.out] at y0
                  rw [HX1.out] at y1
                  go_simp
                  try with_reducible rfl
                simp only [Act.put, List.setIfInBounds_toArray, List.set]
                refine take_at (i := 8) (d := some 116) (fuel := 28) (v := ?_) rfl rfl (by kernel_rfl) (by kernel_rfl) (by kernel_rfl) (fun _ _ _ h => h) (Or.inl ⟨by rfl, ?_⟩) HS ?_
                rotate_left
                · intro W hW
                  obtain ⟨hWL, hWX⟩ := hW
                  have g0 := hWL.cell (j * 14) (by omega)
                  have g1 := hWL.cell (j * 14 + 1) (by omega)
                  have y0 := hWX.cell (j * 14) (by omega)
                  have y1 := hWX.cell (j * 14 + 1) (by omega)
                  rw [HR0.out] at g0
                  rw [HR1.out] at g1
                  rw [HX0.out] at y0
                  rw [HX1.out] at y1
                  go_simp
                  try with_reducible rfl
                simp only [Act.put, List.setIfInBounds_toArray, List.set]
                refine take_at (i := 9) (d := some 117) (fuel := 27) (v := ?_) rfl rfl (by kernel_rfl) (by kernel_rfl) (by kernel_rfl) (fun _ _ _ h => h) (Or.inl ⟨by rfl, ?_⟩) HS ?_
                rotate_left
                · intro W hW
                  obtain ⟨hWL, hWX⟩ := hW
                  have g0 := hWL.cell (j * 14) (by omega)
                  have g1 := hWL.cell (j * 14 + 1) (by omega)
                  have y0 := hWX.cell (j * 14) (by omega)
                  have y1 := hWX.cell (j * 14 + 1) (by omega)
                  rw [HR0.out] at g0
                  rw [HR1.out] at g1
                  rw [HX0.out] at y0
                  rw [HX1.out] at y1
                  go_simp
                  try with_reducible rfl
                simp only [Act.put, List.setIfInBounds_toArray, List.set]
                refine take_at (i := 10) (d := some 118) (fuel := 26) (v := ?_) rfl rfl (by kernel_rfl) (by kernel_rfl) (by kernel_rfl) (fun _ _ _ h => h) (Or.inl ⟨by rfl, ?_⟩) HS ?_
                rotate_left
                · intro W hW
                  obtain ⟨hWL, hWX⟩ := hW
                  have g0 := hWL.cell (j * 14) (by omega)
                  have g1 := hWL.cell (j * 14 + 1) (by omega)
                  have y0 := hWX.cell (j * 14) (by omega)
                  have y1 := hWX.cell (j * 14 + 1) (by omega)
                  rw [HR0.out] at g0
                  rw [HR1.out] at g1
                  rw [HX0.out] at y0
                  rw [HX1.out] at y1
                  go_simp
                  try with_reducible rfl
                simp only [Act.put, List.setIfInBounds_toArray, List.set]
                refine take_at (i := 11) (d := some 119) (fuel := 25) (v := ?_) rfl rfl (by kernel_rfl) (by kernel_rfl) (by kernel_rfl) (fun _ _ _ h => h) (Or.inl ⟨by rfl, ?_⟩) HS ?_
                rotate_left
                · intro W hW
                  obtain ⟨hWL, hWX⟩ := hW
                  have g0 := hWL.cell (j * 14) (by omega)
                  have g1 := hWL.cell (j * 14 + 1) (by omega)
                  have y0 := hWX.cell (j * 14) (by omega)
                  have y1 := hWX.cell (j * 14 + 1) (by omega)
                  rw [HR0.out] at g0
                  rw [HR1.out] at g1
                  rw [HX0.out] at y0
                  rw [HX1.out] at y1
                  go_simp
                  try with_reducible rfl
                simp only [Act.put, List.setIfInBounds_toArray, List.set]
                refine take_at (i := 12) (d := some 120) (fuel := 24) (v := ?_) rfl rfl (by kernel_rfl) (by kernel_rfl) (by kernel_rfl) (fun _ _ _ h => h) (Or.inl ⟨by rfl, ?_⟩) HS ?_
                rotate_left
                · intro W hW
                  obtain ⟨hWL, hWX⟩ := hW
                  have g0 := hWL.cell (j * 14) (by omega)
                  have g1 := hWL.cell (j * 14 + 1) (by omega)
                  have y0 := hWX.cell (j * 14) (by omega)
                  have y1 := hWX.cell (j * 14 + 1) (by omega)
                  rw [HR0.out] at g0
                  rw [HR1.out] at g1
                  rw [HX0.out] at y0
                  rw [HX1.out] at y1
                  go_simp
                  try with_reducible rfl
                simp only [Act.put, List.setIfInBounds_toArray, List.set]
                refine take_at (i := 13) (d := some 121) (fuel := 23) (v := ?_) rfl rfl (by kernel_rfl) (by kernel_rfl) (by kernel_rfl) (fun _ _ _ h => h) (Or.inl ⟨by rfl, ?_⟩) HS ?_
                rotate_left
                · intro W hW
                  obtain ⟨hWL, hWX⟩ := hW
                  have g0 := hWL.cell (j * 14) (by omega)
                  have g1 := hWL.cell (j * 14 + 1) (by omega)
                  have y0 := hWX.cell (j * 14) (by omega)
                  have y1 := hWX.cell (j * 14 + 1) (by omega)
                  rw [HR0.out] at g0
                  rw [HR1.out] at g1
                  rw [HX0.out] at y0
                  rw [HX1.out] at y1
                  go_simp
                  try with_reducible rfl
                simp only [Act.put, List.setIfInBounds_toArray, List.set]
                refine take_at (i := 14) (d := some 122) (fuel := 22) (v := ?_) rfl rfl (by kernel_rfl) (by kernel_rfl) (by kernel_rfl) (fun _ _ _ h => h) (Or.inl ⟨by rfl, ?_⟩) HS ?_
                rotate_left
                · intro W hW
                  obtain ⟨hWL, hWX⟩ := hW
                  have g0 := hWL.cell (j * 14) (by omega)
                  have g1 := hWL.cell (j * 14 + 1) (by omega)
                  have y0 := hWX.cell (j * 14) (by omega)
                  have y1 := hWX.cell (j * 14 + 1) (by omega)
                  rw [HR0.out] at g0
                  rw [HR1.out] at g1
                  rw [HX0.out] at y0
                  rw [HX1.out] at y1
                  go_simp
                  try with_reducible rfl
                simp only [Act.put, List.setIfInBounds_toArray, List.set]
                refine take_at (i := 15) (d := some 123) (fuel := 21) (v := ?_) rfl rfl (by kernel_rfl) (by kernel_rfl) (by kernel_rfl) (fun _ _ _ h => h) (Or.inl ⟨by rfl, ?_⟩) HS ?_
                rotate_left
                · intro W hW
                  obtain ⟨hWL, hWX⟩ := hW
                  have g0 := hWL.cell (j * 14) (by omega)
                  have g1 := hWL.cell (j * 14 + 1) (by omega)
                  have y0 := hWX.cell (j * 14) (by omega)
                  have y1 := hWX.cell (j * 14 + 1) (by omega)
                  rw [HR0.out] at g0
                  rw [HR1.out] at g1
                  rw [HX0.out] at y0
                  rw [HX1.out] at y1
                  go_simp
                  try with_reducible rfl
                simp only [Act.put, List.setIfInBounds_toArray, List.set]
                refine take_at (i := 16) (d := some 124) (fuel := 20) (v := ?_) rfl rfl (by kernel_rfl) (by kernel_rfl) (by kernel_rfl) (fun _ _ _ h => h) (Or.inl ⟨by rfl, ?_⟩) HS ?_
                rotate_left
                · intro W hW
                  obtain ⟨hWL, hWX⟩ := hW
                  have g0 := hWL.cell (j * 14) (by omega)
                  have g1 := hWL.cell (j * 14 + 1) (by omega)
                  have y0 := hWX.cell (j * 14) (by omega)
                  have y1 := hWX.cell (j * 14 + 1) (by omega)
                  rw [HR0.out] at g0
                  rw [HR1.out] at g1
                  rw [HX0.out] at y0
                  rw [HX1.out] at y1
                  go_simp
                  try with_reducible rfl
                simp only [Act.put, List.setIfInBounds_toArray, List.set]
                refine take_at (i := 17) (d := some 125) (fuel := 19) (v := ?_) rfl rfl (by kernel_rfl) (by kernel_rfl) (by kernel_rfl) (fun _ _ _ h => h) (Or.inl ⟨by rfl, ?_⟩) HS ?_
                rotate_left
                · intro W hW
                  obtain ⟨hWL, hWX⟩ := hW
                  have g0 := hWL.cell (j * 14) (by omega)
                  have g1 := hWL.cell (j * 14 + 1) (by omega)
                  have y0 := hWX.cell (j * 14) (by omega)
                  have y1 := hWX.cell (j * 14 + 1) (by omega)
                  rw [HR0.out] at g0
                  rw [HR1.out] at g1
                  rw [HX0.out] at y0
                  rw [HX1.out] at y1
                  go_simp
                  try with_reducible rfl
                simp only [Act.put, List.setIfInBounds_toArray, List.set]
                refine take_at (i := 18) (d := some 126) (fuel := 18) (v := ?_) rfl rfl (by kernel_rfl) (by kernel_rfl) (by kernel_rfl) (fun _ _ _ h => h) (Or.inl ⟨by rfl, ?_⟩) HS ?_
                rotate_left
                · intro W hW
                  obtain ⟨hWL, hWX⟩ := hW
                  have g0 := hWL.cell (j * 14) (by omega)
                  have g1 := hWL.cell (j * 14 + 1) (by omega)
                  have y0 := hWX.cell (j * 14) (by omega)
                  have y1 := hWX.cell (j * 14 + 1) (by omega)
                  rw [HR0.out] at g0
                  rw [HR1.out] at g1
                  rw [HX0.out] at y0
                  rw [HX1.out] at y1
                  go_simp
                  try with_reducible rfl
                simp only [Act.put, List.setIfInBounds_toArray, List.set]
                refine take_at (i := 19) (d := some 127) (fuel := 17) (v := ?_) rfl rfl (by kernel_rfl) (by kernel_rfl) (by kernel_rfl) (fun _ _ _ h => h) (Or.inl ⟨by rfl, ?_⟩) HS ?_
                rotate_left
                · intro W hW
                  obtain ⟨hWL, hWX⟩ := hW
                  have g0 := hWL.cell (j * 14) (by omega)
                  have g1 := hWL.cell (j * 14 + 1) (by omega)
                  have y0 := hWX.cell (j * 14) (by omega)
                  have y1 := hWX.cell (j * 14 + 1) (by omega)
                  rw [HR0.out] at g0
                  rw [HR1.out] at g1
                  rw [HX0.out] at y0
                  rw [HX1.out] at y1
                  go_simp
                  try with_reducible rfl
                simp only [Act.put, List.setIfInBounds_toArray, List.set]
                refine take_at (i := 20) (d := some 128) (fuel := 16) (v := ?_) rfl rfl (by kernel_rfl) (by kernel_rfl) (by kernel_rfl) (fun _ _ _ h => h) (Or.inl ⟨by rfl, ?_⟩) HS ?_
                rotate_left
                · intro W hW
                  obtain ⟨hWL, hWX⟩ := hW
                  have g0 := hWL.cell (j * 14) (by omega)
                  have g1 := hWL.cell (j * 14 + 1) (by omega)
                  have y0 := hWX.cell (j * 14) (by omega)
                  have y1 := hWX.cell (j * 14 + 1) (by omega)
                  rw [HR0.out] at g0
                  rw [HR1.out] at g1
                  rw [HX0.out] at y0
                  rw [HX1.out] at y1
                  go_simp
                  try with_reducible rfl
                simp only [Act.put, List.setIfInBounds_toArray, List.set]
                refine take_at (i := 21) (d := some 129) (fuel := 15) (v := ?_) rfl rfl (by kernel_rfl) (by kernel_rfl) (by kernel_rfl) (fun _ _ _ h => h) (Or.inl ⟨by rfl, ?_⟩) HS ?_
                rotate_left
                · intro W hW
                  obtain ⟨hWL, hWX⟩ := hW
                  have g0 := hWL.cell (j * 14) (by omega)
                  have g1 := hWL.cell (j * 14 + 1) (by omega)
                  have y0 := hWX.cell (j * 14) (by omega)
                  have y1 := hWX.cell (j * 14 + 1) (by omega)
                  rw [HR0.out] at g0
                  rw [HR1.out] at g1
                  rw [HX0.out] at y0
                  rw [HX1.out] at y1
                  go_simp
                  try with_reducible rfl
                simp only [Act.put, List.setIfInBounds_toArray, List.set]
                refine take_at (i := 22) (d := some 130) (fuel := 14) (v := ?_) rfl rfl (by kernel_rfl) (by kernel_rfl) (by kernel_rfl) (fun _ _ _ h => h) (Or.inl ⟨by rfl, ?_⟩) HS ?_
                rotate_left
                · intro W hW
                  obtain ⟨hWL, hWX⟩ := hW
                  have g0 := hWL.cell (j * 14) (by omega)
                  have g1 := hWL.cell (j * 14 + 1) (by omega)
                  have y0 := hWX.cell (j * 14) (by omega)
                  have y1 := hWX.cell (j * 14 + 1) (by omega)
                  rw [HR0.out] at g0
                  rw [HR1.out] at g1
                  rw [HX0.out] at y0
                  rw [HX1.out] at y1
                  go_simp
                  try with_reducible rfl
                simp only [Act.put, List.setIfInBounds_toArray, List.set]
                refine take_at (i := 23) (d := some 131) (fuel := 13) (v := ?_) rfl rfl (by kernel_rfl) (by kernel_rfl) (by kernel_rfl) (fun _ _ _ h => h) (Or.inl ⟨by rfl, ?_⟩) HS ?_
                rotate_left
                · intro W hW
                  obtain ⟨hWL, hWX⟩ := hW
                  have g0 := hWL.cell (j * 14) (by omega)
                  have g1 := hWL.cell (j * 14 + 1) (by omega)
                  have y0 := hWX.cell (j * 14) (by omega)
                  have y1 := hWX.cell (j * 14 + 1) (by omega)
                  rw [HR0.out] at g0
                  rw [HR1.out] at g1
                  rw [HX0.out] at y0
                  rw [HX1.out] at y1
                  go_simp
                  try with_reducible rfl
                simp only [Act.put, List.setIfInBounds_toArray, List.set]
                refine take_at (i := 24) (d := some 132) (fuel := 12) (v := ?_) rfl rfl (by kernel_rfl) (by kernel_rfl) (by kernel_rfl) (fun _ _ _ h => h) (Or.inl ⟨by rfl, ?_⟩) HS ?_
                rotate_left
                · intro W hW
                  obtain ⟨hWL, hWX⟩ := hW
                  have g0 := hWL.cell (j * 14) (by omega)
                  have g1 := hWL.cell (j * 14 + 1) (by omega)
                  have y0 := hWX.cell (j * 14) (by omega)
                  have y1 := hWX.cell (j * 14 + 1) (by omega)
                  rw [HR0.out] at g0
                  rw [HR1.out] at g1
                  rw [HX0.out] at y0
                  rw [HX1.out] at y1
                  go_simp
                  try with_reducible rfl
                simp only [Act.put, List.setIfInBounds_toArray, List.set]
                refine take_at (i := 25) (d := some 133) (fuel := 11) (v := ?_) rfl rfl (by kernel_rfl) (by kernel_rfl) (by kernel_rfl) (fun _ _ _ h => h) (Or.inl ⟨by rfl, ?_⟩) HS ?_
                rotate_left
                · intro W hW
                  obtain ⟨hWL, hWX⟩ := hW
                  have g0 := hWL.cell (j * 14) (by omega)
                  have g1 := hWL.cell (j * 14 + 1) (by omega)
                  have y0 := hWX.cell (j * 14) (by omega)
                  have y1 := hWX.cell (j * 14 + 1) (by omega)
                  rw [HR0.out] at g0
                  rw [HR1.out] at g1
                  rw [HX0.out] at y0
                  rw [HX1.out] at y1
                  go_simp
                  try with_reducible rfl
                simp only [Act.put, List.setIfInBounds_toArray, List.set]
                refine take_at (i := 26) (d := some 134) (fuel := 10) (v := ?_) rfl rfl (by kernel_rfl) (by kernel_rfl) (by kernel_rfl) (fun _ _ _ h => h) (Or.inl ⟨by rfl, ?_⟩) HS ?_
                rotate_left
                · intro W hW
                  obtain ⟨hWL, hWX⟩ := hW
                  have g0 := hWL.cell (j * 14) (by omega)
                  have g1 := hWL.cell (j * 14 + 1) (by omega)
                  have y0 := hWX.cell (j * 14) (by omega)
                  have y1 := hWX.cell (j * 14 + 1) (by omega)
                  rw [HR0.out] at g0
                  rw [HR1.out] at g1
                  rw [HX0.out] at y0
                  rw [HX1.out] at y1
                  go_simp
                  try with_reducible rfl
                simp only [Act.put, List.setIfInBounds_toArray, List.set]
                refine take_at (i := 27) (d := some 135) (fuel := 9) (v := ?_) rfl rfl (by kernel_rfl) (by kernel_rfl) (by kernel_rfl) (fun _ _ _ h => h) (Or.inl ⟨by rfl, ?_⟩) HS ?_
                rotate_left
                · intro W hW
                  obtain ⟨hWL, hWX⟩ := hW
                  have g0 := hWL.cell (j * 14) (by omega)
                  have g1 := hWL.cell (j * 14 + 1) (by omega)
                  have y0 := hWX.cell (j * 14) (by omega)
                  have y1 := hWX.cell (j * 14 + 1) (by omega)
                  rw [HR0.out] at g0
                  rw [HR1.out] at g1
                  rw [HX0.out] at y0
                  rw [HX1.out] at y1
                  go_simp
                  try with_reducible rfl
                simp only [Act.put, List.setIfInBounds_toArray, List.set]
                refine take_at (i := 28) (d := some 136) (fuel := 8) (v := ?_) rfl rfl (by kernel_rfl) (by kernel_rfl) (by kernel_rfl) (fun _ _ _ h => h) (Or.inl ⟨by rfl, ?_⟩) HS ?_
                rotate_left
                · intro W hW
                  obtain ⟨hWL, hWX⟩ := hW
                  have g0 := hWL.cell (j * 14) (by omega)
                  have g1 := hWL.cell (j * 14 + 1) (by omega)
                  have y0 := hWX.cell (j * 14) (by omega)
                  have y1 := hWX.cell (j * 14 + 1) (by omega)
                  rw [HR0.out] at g0
                  rw [HR1.out] at g1
                  rw [HX0.out] at y0
                  rw [HX1.out] at y1
                  go_simp
                  try with_reducible rfl
                simp only [Act.put, List.setIfInBounds_toArray, List.set]
                refine take_at (i := 29) (d := some 137) (fuel := 7) (v := .agg (ints (L.exit j))) rfl rfl (by kernel_rfl) (by kernel_rfl) (by kernel_rfl) (fun _ _ _ h => h) (Or.inl ⟨by rfl, fun W hW => exec_exits (by rw [HXE.out]) (.tmp 136) rfl _ j hj rfl rfl hW.2⟩) HS ?_
                simp only [Act.put, List.setIfInBounds_toArray, List.set]
                refine take_at (i := 30) (d := some 138) (fuel := 6) (v := ?_) rfl rfl (by kernel_rfl) (by kernel_rfl) (by kernel_rfl) (fun _ _ _ h => h) (Or.inl ⟨by rfl, ?_⟩) HS ?_
                rotate_left
                · intro W hW
                  obtain ⟨hWL, hWX⟩ := hW
                  have g0 := hWL.cell (j * 14) (by omega)
                  have g1 := hWL.cell (j * 14 + 1) (by omega)
                  have y0 := hWX.cell (j * 14) (by omega)
                  have y1 := hWX.cell (j * 14 + 1) (by omega)
                  rw [HR0.out] at g0
                  rw [HR1.out] at g1
                  rw [HX0.out] at y0
                  rw [HX1.out] at y1
                  go_simp
                  try with_reducible rfl
                simp only [Act.put, List.setIfInBounds_toArray, List.set]
                refine take_at (i := 31) (d := some 139) (fuel := 5) (v := ?_) rfl rfl (by kernel_rfl) (by kernel_rfl) (by kernel_rfl) (fun _ _ _ h => h) (Or.inl ⟨by rfl, ?_⟩) HS ?_
                rotate_left
                · intro W hW
                  obtain ⟨hWL, hWX⟩ := hW
                  have g0 := hWL.cell (j * 14) (by omega)
                  have g1 := hWL.cell (j * 14 + 1) (by omega)
                  have y0 := hWX.cell (j * 14) (by omega)
                  have y1 := hWX.cell (j * 14 + 1) (by omega)
                  rw [HR0.out] at g0
                  rw [HR1.out] at g1
                  rw [HX0.out] at y0
                  rw [HX1.out] at y1
                  go_simp
                  try with_reducible rfl
                simp only [Act.put, List.setIfInBounds_toArray, List.set]
                refine take_at (i := 32) (d := some 140) (fuel := 4) (v := ?_) rfl rfl (by kernel_rfl) (by kernel_rfl) (by kernel_rfl) (fun _ _ _ h => h) (Or.inl ⟨by rfl, ?_⟩) HS ?_
                rotate_left
                · intro W hW
                  obtain ⟨hWL, hWX⟩ := hW
                  have g0 := hWL.cell (j * 14) (by omega)
                  have g1 := hWL.cell (j * 14 + 1) (by omega)
                  have y0 := hWX.cell (j * 14) (by omega)
                  have y1 := hWX.cell (j * 14 + 1) (by omega)
                  rw [HR0.out] at g0
                  rw [HR1.out] at g1
                  rw [HX0.out] at y0
                  rw [HX1.out] at y1
                  go_simp
                  try with_reducible rfl
                simp only [Act.put, List.setIfInBounds_toArray, List.set]
                refine take_at (i := 33) (d := some 141) (fuel := 3) (v := ?_) rfl rfl (by kernel_rfl) (by kernel_rfl) (by kernel_rfl) (fun _ _ _ h => h) (Or.inl ⟨by rfl, ?_⟩) HS ?_
                rotate_left
                · intro W hW
                  obtain ⟨hWL, hWX⟩ := hW
                  have g0 := hWL.cell (j * 14) (by omega)
                  have g1 := hWL.cell (j * 14 + 1) (by omega)
                  have y0 := hWX.cell (j * 14) (by omega)
                  have y1 := hWX.cell (j * 14 + 1) (by omega)
                  rw [HR0.out] at g0
                  rw [HR1.out] at g1
                  rw [HX0.out] at y0
                  rw [HX1.out] at y1
                  go_simp
                  try with_reducible rfl
                simp only [Act.put, List.setIfInBounds_toArray, List.set]
                refine take_at (i := 34) (d := some 142) (fuel := 2) (v := .agg (ints (L.exit j))) rfl rfl (by kernel_rfl) (by kernel_rfl) (by kernel_rfl) (fun _ _ _ h => h) (Or.inl ⟨by rfl, fun W hW => exec_exits rfl (.tmp 141) rfl _ j hj rfl rfl hW.1⟩) HS ?_
                simp only [Act.put, List.setIfInBounds_toArray, List.set]
                refine take_at (i := 35) (d := some 143) (fuel := 1) (v := .bool false) rfl rfl (by kernel_rfl) (by kernel_rfl) (by kernel_rfl) (fun _ _ _ h => h) (Or.inl ⟨by rfl, fun W hW => exec_neqints (.tmp 137) (.tmp 142) 22 rfl rfl rfl⟩) HS ?_
                simp only [Act.put, List.setIfInBounds_toArray, List.set]
                refine take_at (i := 36) (d := some 144) (fuel := 0) (v := ?_) rfl rfl (by kernel_rfl) (by kernel_rfl) (by kernel_rfl) (fun _ _ _ h => h) (Or.inl ⟨by rfl, ?_⟩) HS ?_
                rotate_left
                · intro W hW
                  obtain ⟨hWL, hWX⟩ := hW
                  have g0 := hWL.cell (j * 14) (by omega)
                  have g1 := hWL.cell (j * 14 + 1) (by omega)
                  have y0 := hWX.cell (j * 14) (by omega)
                  have y1 := hWX.cell (j * 14 + 1) (by omega)
                  rw [HR0.out] at g0
                  rw [HR1.out] at g1
                  rw [HX0.out] at y0
                  rw [HX1.out] at y1
                  go_simp
                  try with_reducible rfl
                simp only [Act.put, List.setIfInBounds_toArray, List.set]
                refine wpAnyH_done (by kernel_rfl) ?_ _
                go_wp2
                go_roundw
                case rel => exact ⟨j + 1, by omega, by go_num, R3.out.drew⟩
                case measure => simp [intOf]; omega
              · have hj6 : j = 6 := by omega
                subst hj6
                have BF := hide (B4.out.trans (R3.out.mono B4.out.size))
                go_wp2
                go_ret
                exact ⟨rfl, BF.out⟩
  · have HR := hide hr0
    have hrb : (refuses L b O.verb != 0) = true := by simp [hr0]
    refine (do_bad L b O _ hwf hr0).mono ?_
    generalize refuses L b O.verb = er at *
    rintro e w1 ⟨rfl, hb1⟩
    have C1 := hide ((C0.out.behind hb1 (Nat.le_refl _)).alloc (.cells L.cells 34))
    have X1 := hide (cod_new w1 L)
    have V1 := hide ((V0.out.below hb1 (Nat.le_refl _)).alloc (.cells L.cells 34))
    have B1 := hide ((B0.out.trans (hb1.mono B0.out.size)).alloc (by have := B0.out.size; have := hb1.size; omega) (.cells L.cells 34))
    clear hb1 C0 B0 V0 HN hr0 G0'
    go_wp2_with (first | (refine wl_new 34 (.tmp 7) (.tmp 22) rfl rfl _ _ rfl rfl rfl (by rw [Ld.size]; exact Tryd.sizeLand) (by rw [Ld.size, Ld.size]) (land_one _) ?_) | (refine wl_land (.tmp 7) rfl rfl _ L rfl X1.out ?_) | (refine wl_land (.tmp 3) rfl rfl _ L rfl C1.out ?_) | (refine wl_eqlandK (.tmp 31) (.tmp 32) 34 rfl rfl L rfl rfl ?_))
    refine (kacts_any _ V1.out).mono ?_
    rintro e w3 ⟨rfl, hb3⟩
    have BF := hide (B1.out.trans (hb3.mono B1.out.size))
    clear hb3
    go_wp2
    go_ret
    exact ⟨rfl, BF.out⟩
end Go.Proofs.YtaifjndkgfffpaaDoor
