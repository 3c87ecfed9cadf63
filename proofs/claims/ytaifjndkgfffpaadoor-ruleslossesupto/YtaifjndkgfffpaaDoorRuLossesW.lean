/-
  Health goes down by just the hits that were told: the law's walk.
-/
import Derived.Test.YtaifjndkgfffpaaDoorRuLs
import Derived.Test.YtaifjndkgfffpaaDoorRuRound
import Derived.Test.YtaifjndkgfffpaaDoorRuActs
import Derived.Test.YtaifjndkgfffpaaDoorMgK
namespace Go.Proofs.YtaifjndkgfffpaaDoor
open Go.RowKit
set_option linter.unusedVariables false

theorem wl_eqland {ops : Array Oper} {rest : List Oper} {op : Oper} {a : Act} {w : World} {Q : Exit → Act → World → Prop} (x y : Operand) (t : TypeId) (ho : op.op = .binOp .eql 34 x y t) (hw : Region.wanted op (yielded ops a.tmps) = true) (L : Ld)
    (hx : a.eval x = .agg L.cells) (hy : a.eval y = .agg L.cells) (h : wpList Tryd.prog ops Q rest (a.put op.dst (.bool true)) w) : wpList Tryd.prog ops Q (op :: rest) a w := by
  refine wl_wanted hw ?_
  unfold Oper.wp
  rw [exec_eqland x y t ho hx hy]
  exact h
theorem ints_set (f : Nat → Int) (k : Nat) (hk : k < 6) (x : Int) : (ints f).setIfInBounds k (.int .i64 x) = ints (fun d => if d = k then x else f d) := by
  match k, hk with
  | 0, _ | 1, _ | 2, _ | 3, _ | 4, _ | 5, _ => rfl
theorem bools_true (f : Nat → Bool) (k : Nat) (hk : k < 6) : (bools f).setIfInBounds k (.bool true) = bools (fun d => if d = k then true else f d) := by
  match k, hk with
  | 0, _ | 1, _ | 2, _ | 3, _ | 4, _ | 5, _ => rfl
theorem ints_congr {f g : Nat → Int} (h : ∀ j, j < 6 → f j = g j) : ints f = ints g := by
  unfold ints; rw [h 0 (by omega), h 1 (by omega), h 2 (by omega), h 3 (by omega), h 4 (by omega), h 5 (by omega)]
theorem bools_congr {f g : Nat → Bool} (h : ∀ j, j < 6 → f j = g j) : bools f = bools g := by
  unfold bools; rw [h 0 (by omega), h 1 (by omega), h 2 (by omega), h 3 (by omega), h 4 (by omega), h 5 (by omega)]

/-- A round's head: what was counted so far. -/
structure LsRel (Fs : List Ev) (w2 : World) (k : Nat) (wr : World) : Prop where
  hurt : wr.heap[w2.heap.size]? = some (.cells (ints (hurtF (Fs.take k))) 22 (0, 0))
  died : wr.heap[w2.heap.size + 1]? = some (.cells (bools (diedF (Fs.take k))) 23 (0, 0))
  low : Below w2.heap.size w2 wr
section
variable {Fs : List Ev} {w2 wr wr' : World} {k : Nat}
theorem LsRel.lt (h : LsRel Fs w2 k wr) : w2.heap.size + 1 < wr.heap.size := (Array.getElem?_eq_some_iff.1 h.died).1
theorem LsRel.call (h : LsRel Fs w2 k wr) (hb : Below wr.heap.size wr wr') : LsRel Fs w2 k wr' := by
  have := h.lt
  exact ⟨by rw [hb.block _ (by omega)]; exact h.hurt, by rw [hb.block _ (by omega)]; exact h.died, h.low.trans (hb.mono h.low.size)⟩
theorem fs_next {E : Ev} (hE : Fs[k]? = some E) : Fs.take (k + 1) = Fs.take k ++ [E] := by
  obtain ⟨hk, e⟩ := List.getElem?_eq_some_iff.1 hE
  rw [List.take_succ_eq_append_getElem hk, e]
theorem LsRel.pass (h : LsRel Fs w2 k wr) {E : Ev} (hE : Fs[k]? = some E) (h1 : E.kind ≠ 14) (h2 : E.kind ≠ 15) : LsRel Fs w2 (k + 1) wr := by
  have e := fs_next hE
  refine ⟨?_, ?_, h.low⟩
  · rw [h.hurt, e]; congr 2
    apply ints_congr; intro j _
    rw [hurt_app, calm_hurt (Fs := [E]) (fun F hF => by rw [List.mem_singleton.1 hF]; exact ⟨h1, h2⟩), Int.add_zero]
  · rw [h.died, e]; congr 2
    apply bools_congr; intro j _
    rw [died_app, calm_died (Fs := [E]) (fun F hF => by rw [List.mem_singleton.1 hF]; exact ⟨h1, h2⟩), Bool.or_false]
theorem LsRel.hit (h : LsRel Fs w2 k wr) {E : Ev} (hE : Fs[k]? = some E) (h1 : E.kind = 14) {c : Nat} (hc : c < 6) (ho : E.other = (c : Int)) : LsRel Fs w2 (k + 1) (wr.setCell ⟨w2.heap.size, c, none⟩ (.int .i64 (hurtF (Fs.take k) c + E.num))) := by
  have e := fs_next hE
  refine ⟨?_, ?_, h.low.setCell (by simp) _⟩
  · rw [setCell_eq_setRow wr _ c _ _ _ _ h.hurt, setRow_heap wr _ _ _ _ _ h.hurt, ints_set _ c hc, e]
    congr 2
    apply ints_congr; intro j _
    rw [hurt_app]
    simp only [hurtF, List.map_cons, List.map_nil, List.sum_cons, List.sum_nil, Int.add_zero]
    by_cases hj : j = c
    · subst hj; rw [if_pos rfl]; unfold hurtE; rw [if_pos (show E.kind = 14 ∧ E.other = (j : Int) from ⟨h1, ho⟩)]
    · rw [if_neg hj]
      have : hurtE j E = 0 := by unfold hurtE; rw [if_neg (by rintro ⟨_, e2⟩; omega)]
      rw [this, Int.add_zero]
  · rw [Below.heap_setCell _ _ _ _ (by simp), h.died, e]
    congr 2
    apply bools_congr; intro j _
    rw [died_app]
    have : diedF [E] j = false := by simp [diedF, diedE, h1]
    rw [this, Bool.or_false]
theorem LsRel.die (h : LsRel Fs w2 k wr) {E : Ev} (hE : Fs[k]? = some E) (h1 : E.kind = 15) {c : Nat} (hc : c < 6) (ho : E.actor = (c : Int)) : LsRel Fs w2 (k + 1) (wr.setCell ⟨w2.heap.size + 1, c, none⟩ (.bool true)) := by
  have e := fs_next hE
  refine ⟨?_, ?_, h.low.setCell (by simp) _⟩
  · rw [Below.heap_setCell _ _ _ _ (by simp), h.hurt, e]
    congr 2
    apply ints_congr; intro j _
    rw [hurt_app]
    have : hurtF [E] j = 0 := by simp [hurtF, hurtE, h1]
    rw [this, Int.add_zero]
  · rw [setCell_eq_setRow wr _ c _ _ _ _ h.died, setRow_heap wr _ _ _ _ _ h.died, bools_true _ c hc, e]
    congr 2
    apply bools_congr; intro j _
    rw [died_app]
    by_cases hj : j = c
    · subst hj; simp [diedF, diedE, h1, ho]
    · have : diedF [E] j = false := by simp [diedF, diedE, h1, ho]; omega
      rw [if_neg hj, this, Bool.or_false]
theorem LsRel.drew (h : LsRel Fs w2 k wr) : LsRel Fs w2 k wr.drew := h.call (Below.refl _ _).drew
theorem LsRel.hcell (h : LsRel Fs w2 k wr) (c : Nat) (hc : c < 6) : wr.cell? ⟨w2.heap.size, c, none⟩ = some (.int .i64 (hurtF (Fs.take k) c)) := by
  rw [cell_of_row wr _ _ _ _ _ h.hurt, ints_get _ c hc]
theorem LsRel.dcell (h : LsRel Fs w2 k wr) (c : Nat) (hc : c < 6) : wr.cell? ⟨w2.heap.size + 1, c, none⟩ = some (.bool (diedF (Fs.take k) c)) := by
  rw [cell_of_row wr _ _ _ _ _ h.died, bools_get _ c hc]
theorem LsRel.hsoft (h : LsRel Fs w2 k wr) (c : Nat) : wr.frozen? ⟨w2.heap.size, c, none⟩ = false := by simp only [World.frozen?, h.hurt]; simp
theorem LsRel.dsoft (h : LsRel Fs w2 k wr) (c : Nat) : wr.frozen? ⟨w2.heap.size + 1, c, none⟩ = false := by simp only [World.frozen?, h.died]; simp
theorem two_new (w : World) (A B : Array Value) (T : TypeId) : (((w.alloc (.cells A T)).alloc (.cells B T)).drew.heap[w.heap.size]? = some (.cells A T (0, 0)) ∧ ((w.alloc (.cells A T)).alloc (.cells B T)).drew.heap[w.heap.size + 1]? = some (.cells B T (0, 0))) ∧ Below w.heap.size w ((w.alloc (.cells A T)).alloc (.cells B T)).drew := by
  refine ⟨⟨?_, ?_⟩, (((Below.refl _ _).alloc (Nat.le_refl _) _).alloc (by simp) _).drew⟩
  · show ((w.alloc (.cells A T)).alloc (.cells B T)).heap[w.heap.size]? = _
    rw [Below.heap_alloc _ _ _ (by simp)]; exact heap_alloc_new w _
  · show ((w.alloc (.cells A T)).alloc (.cells B T)).heap[w.heap.size + 1]? = _
    have := heap_alloc_new (w.alloc (.cells A T)) (.cells B T)
    rw [World.size_alloc] at this; exact this
theorem told_take {Fs : List Ev} (h : Told Fs) (k : Nat) : Told (Fs.take k) := fun E hE => h E (List.mem_of_mem_take hE)
end

theorem wf_fine {L : Ld} (h : Fine L) : Wf L := by
  refine ⟨fun r d hr hd => ?_, fun b hb => ?_⟩
  · rcases h.exit r d hr hd with e | ⟨t, ht, e⟩ <;> rw [e] <;> omega
  · rcases h.foe b hb with e | ⟨t, ht, e⟩ <;> rw [e] <;> omega
theorem event_range {w : World} {base : Nat} {v : Value} {Fs : List Ev} (h : w.ownsRow base 52 16 v Fs.length (evc Fs)) {k : Nat} {E : Ev} (hE : Fs[k]? = some E) : ∃ g cap, v = .slice (some ⟨g, 0, none⟩) Fs.length cap ∧ base ≤ g ∧ g < w.heap.size ∧ w.rangeAt g (k * 16) E.cells.toList := by
  obtain ⟨hk, e⟩ := List.getElem?_eq_some_iff.1 hE
  obtain ⟨g, cap, rfl, hb, hc⟩ := event_of h k hk
  refine ⟨g, cap, rfl, hb, (h.lt g rfl).2, fun j x hx => ?_⟩
  have hj : j < 16 := by
    have := (List.getElem?_eq_some_iff.1 hx).1; rw [Array.length_toList, Ev.size] at this; exact this
  rw [hc j hj, e, ← hx, Array.getElem?_toList]

set_option maxRecDepth 100000 in
set_option maxHeartbeats 4000000 in
theorem lossesW (L : Ld) (d : Int) (wA : World) (hvb : Vb wA) (hwf : Wf L) (hn1 : ∀ r, r < 6 → (L.rname r).size ≤ 1048576) (hn2 : ∀ i, i < 9 → (L.tname i).size ≤ 1048576) (hn3 : ∀ b, b < 6 → (L.bname b).size ≤ 1048576) (hd : -9223372036854775808 ≤ d) (hd' : d ≤ 9223372036854775807) :
    Calls Tryd.prog 8 #[.agg L.cells, .int .i64 d] wA fun e W' => e = .returned (.bool true) ∧ Below wA.heap.size wA W' := by
  have hz := (zero_of_info Tryd.zLand).1
  have C0 := hide (cod_new wA L)
  have B0 := hide (below_box wA (.cells L.cells 34))
  have V0 := hide (hvb.alloc (.cells L.cells 34))
  have HN := hide (And.intro hn1 (And.intro hn2 hn3))
  clear hvb hn1 hn2 hn3
  go_enter Tryd.func8, Tryd.ntmps8
  go_wp2_with (refine wl_land (.tmp 2) rfl rfl _ L rfl C0.out ?_)
  cases hg : goodL L with
  | false =>
    refine (round_bad L d _ hwf hg).mono ?_
    rintro e w1 ⟨rfl, hb1⟩
    have C1 := hide ((C0.out.behind hb1 (Nat.le_refl _)).alloc (.cells L.cells 34))
    have X1 := hide (cod_new w1 L)
    have V1 := hide ((V0.out.below hb1 (Nat.le_refl _)).alloc (.cells L.cells 34))
    have B1 := hide ((B0.out.trans (hb1.mono B0.out.size)).alloc (by have := B0.out.size; have := hb1.size; omega) (.cells L.cells 34))
    clear hb1 C0 B0 V0 hg HN
    go_wp2_with (first | (refine wl_new 34 (.tmp 5) (.tmp 19) rfl rfl _ _ rfl rfl rfl (by rw [Ld.size]; exact Tryd.sizeLand) (by rw [Ld.size, Ld.size]) (land_one _) ?_) | (refine wl_land (.tmp 5) rfl rfl _ L rfl X1.out ?_) | (refine wl_land (.tmp 2) rfl rfl _ L rfl C1.out ?_) | (refine wl_eqland (.tmp 28) (.tmp 29) 34 rfl rfl L rfl rfl ?_))
    refine (kacts_any _ V1.out).mono ?_
    rintro e w3 ⟨rfl, hb3⟩
    have BF := hide (B1.out.trans (hb3.mono B1.out.size))
    clear hb3
    go_wp2
    go_ret
    exact ⟨rfl, BF.out⟩
  | true =>
    have hf := fine_of hg HN.out.1 HN.out.2.1 HN.out.2.2
    have HX := hide (round_good hg (drawN d) 6 (by omega))
    have HLs := hide (lss_round hg (drawN d) 6 (by omega))
    have HLn := hide (round_len L (drawN d) 6)
    refine (round_any L d _ _ _ rfl rfl V0.out hwf hf hg).mono ?_
    generalize (roundK L (drawN d) 6).1 = X at *
    generalize (roundK L (drawN d) 6).2 = Fs at *
    rintro e w1 ⟨v, rfl, ho, hb1⟩
    have C1 := hide ((C0.out.behind hb1 (Nat.le_refl _)).alloc (.cells X.cells 34))
    have X1 := hide (cod_new w1 X)
    have V1 := hide ((V0.out.below hb1 (Nat.le_refl _)).alloc (.cells X.cells 34))
    have B1 := hide ((B0.out.trans (hb1.mono B0.out.size)).alloc (by have := B0.out.size; have := hb1.size; omega) (.cells X.cells 34))
    have O1 := hide (own_below ho (below_box w1 (.cells X.cells 34)))
    obtain ⟨av, cap, rfl⟩ := shapeE ho
    have HFX := hide (HX.out.2.fine hf HX.out.1)
    clear hb1 C0 B0 V0 ho HN hf
    go_wp2_with (refine wl_new 34 (.tmp 5) (.tmp 19) rfl rfl _ _ rfl rfl rfl (by rw [Ld.size]; exact Tryd.sizeLand) (by rw [Ld.size, Ld.size]) (land_one _) ?_)
    refine (kacts_any _ V1.out).mono ?_
    rintro e w2 ⟨rfl, hb2⟩
    have C2 := hide (C1.out.behind hb2 (Nat.le_refl _))
    have X2 := hide (X1.out.behind hb2 (Nat.le_refl _))
    have O2 := hide (own_below O1.out hb2)
    have B2 := hide (B1.out.trans (hb2.mono B1.out.size))
    clear hb2 C1 X1 V1 B1 O1 hg
    have Z0 : Hid (LsRel Fs w2 0 ((w2.alloc (.cells (ints (fun _ => 0)) 22)).alloc (.cells (bools (fun _ => false)) 23))) := by
      refine ⟨?_, ?_, (below_box w2 _).alloc (by simp) _⟩
      · rw [Below.heap_alloc _ _ _ (by simp)]; exact heap_alloc_new w2 _
      · have := heap_alloc_new (w2.alloc (.cells (ints (fun _ => 0)) 22)) (.cells (bools (fun _ => false)) 23)
        rw [World.size_alloc] at this; exact this
    have hn := HLn.out
    generalize hnn : Fs.length = n at *
    have HNN := hide hnn
    clear hnn
    go_wp2_with fail
    go_loopw [38] (fun c wr => ∃ k : Nat, k ≤ n ∧ c = .int .i64 k ∧ LsRel Fs w2 k wr) (fun c _ => n - (intOf c).toNat)
    case atStart => exact ⟨0, by omega, rfl, Z0.out⟩
    case round =>
      obtain ⟨k, hle, rfl, Rh⟩ := hrel
      have R := hide Rh
      clear Rh Z0
      by_cases hk : k < n
      · obtain ⟨E, hE⟩ : ∃ E, Fs[k]? = some E := ⟨Fs[k]'(by rw [HNN.out]; exact hk), List.getElem?_eq_getElem (by rw [HNN.out]; exact hk)⟩
        have hOw : wr.ownsRow (wA.alloc (.cells L.cells 34)).heap.size 52 16 (.slice av Fs.length cap) Fs.length (evc Fs) := own_below (by rw [HNN.out]; exact O2.out) R.out.low
        obtain ⟨g, cap', e, hbg, hgl, hrg⟩ := event_range hOw hE
        injection e with e1 e2 e3
        subst e1 e3
        have hT := HLs.out.told E (List.mem_of_getElem? hE)
        have HRG := hide hrg
        have HE := hide hE
        have RA := hide (R.out.call (below_box wr (.cells E.cells 52)))
        have CA := hide (cev_new wr E)
        have hl := R.out.lt
        clear hrg hE hOw e2
        go_upto_region 9 with (first | (refine wl_mid 52 (.tmp 40) rfl rfl g (k * 16) E.cells.toList _ rfl HRG.out Tryd.underlying52 rfl Tryd.sizeEvent ?_) | (refine wl_new 52 (.tmp 11) (.tmp 41) rfl rfl _ _ rfl rfl rfl Tryd.sizeEvent rfl (Ev.one E) ?_))
        generalize hwy : wr.alloc (.cells E.cells 52) = wy at *
        generalize hky : wr.heap.size = ky at *
        have hkl := CA.out.lt
        have hne1 : ky ≠ w2.heap.size := by omega
        have hne2 : ky ≠ w2.heap.size + 1 := by omega
        have hne3 : w2.heap.size ≠ ky := by omega
        have hne4 : w2.heap.size + 1 ≠ ky := by omega
        have y0 := CA.out.kind
        clear hwy hky R HRG hgl hbg
        by_cases h14 : E.kind = 14
        · obtain ⟨hn1, hn3, c, hc, hco⟩ := hT.1 h14
          have y3 := CA.out.othr
          have y5 := CA.out.num
          rw [h14] at y0
          rw [hco] at y3
          have hh := RA.out.hcell c hc
          have hhf := RA.out.hsoft c
          have hbd := told_nonneg (told_take HLs.out.told k) c
          have hlt : (Fs.take k).length ≤ 72 := by rw [List.length_take]; omega
          have hwn : wrap64 (hurtF (Fs.take k) c + E.num) = hurtF (Fs.take k) c + E.num := by simp only [wrap64]; omega
          have N := hide (RA.out.drew.hit HE.out h14 hc hco)
          have hci : (c : Int) < 6 := by omega
          have hd1 : decide (E.num < 1) = false := decide_eq_false (by omega)
          have hd3 : decide (3 < E.num) = false := decide_eq_false (by omega)
          have hdc : decide ((c : Int) < 0) = false := decide_eq_false (by omega)
          clear h14 hT hco hbd hlt CA
          generalize hurtF (Fs.take k) c = hv at *
          simp only [Act.put]
          go_wp2_with fail
          go_region
          go_wp2
          go_roundw
          case rel => exact ⟨k + 1, by omega, by go_num, N.out⟩
          case measure => simp [intOf]; omega
        · have hb14 : (E.kind == 14) = false := by simp [h14]
          by_cases h15 : E.kind = 15
          · obtain ⟨c, hc, hco⟩ := hT.2 h15
            have y2 := CA.out.actor
            rw [h15] at y0
            rw [h15] at hb14
            rw [hco] at y2
            have hh := RA.out.dcell c hc
            have hhf := RA.out.dsoft c
            have N := hide (RA.out.die HE.out h15 hc hco)
            have hci : (c : Int) < 6 := by omega
            clear h14 h15 hT hco CA
            generalize diedF (Fs.take k) c = hv at *
            simp only [Act.put]
            go_wp2
            go_roundw
            case rel => exact ⟨k + 1, by omega, by go_num, N.out⟩
            case measure => simp [intOf]; omega
          · have hb15 : (E.kind == 15) = false := by simp [h15]
            have N := hide (RA.out.pass HE.out h14 h15)
            clear h14 h15 hT CA
            simp only [Act.put]
            go_wp2
            go_roundw
            case rel => exact ⟨k + 1, by omega, by go_num, N.out⟩
            case measure => simp [intOf]; omega
      · have hkn : k = n := by omega
        subst hkn
        have hall : Fs.take k = Fs := by rw [← HNN.out]; exact List.take_length
        go_wp2_with fail
        go_loopw [73] (fun c wr' => ∃ j : Nat, j ≤ 6 ∧ c = .int .i64 j ∧ LsRel Fs w2 k wr') (fun c _ => 6 - (intOf c).toNat)
        case atStart => exact ⟨0, by omega, rfl, R.out⟩
        case round =>
          obtain ⟨j, hlj, rfl, Rh⟩ := hrel
          have R2 := hide Rh
          clear Rh R
          by_cases hj : j < 6
          · have hji : (j : Int) < 6 := by omega
            have C3 := C2.out.behind R2.out.low (Nat.le_refl _)
            have X3 := X2.out.behind R2.out.low (Nat.le_refl _)
            have a0 := C3.being j 0 hj (by omega)
            have a1 := C3.being j 1 hj (by omega)
            have a2 := C3.being j 2 hj (by omega)
            have a3 := C3.being j 3 hj (by omega)
            have a4 := C3.being j 4 hj (by omega)
            have a5 := C3.being j 5 hj (by omega)
            have b0 := X3.being j 0 hj (by omega)
            have b1 := X3.being j 1 hj (by omega)
            have b2 := X3.being j 2 hj (by omega)
            have b3 := X3.being j 3 hj (by omega)
            have b4 := X3.being j 4 hj (by omega)
            have b5 := X3.being j 5 hj (by omega)
            simp only [Ld.beingCell, Nat.add_zero] at a0 a1 a2 a3 a4 a5 b0 b1 b2 b3 b4 b5
            have hh := R2.out.hcell j hj
            have dd := R2.out.dcell j hj
            rw [hall] at hh dd
            have hlz := R2.out.lt
            have hle1 := C3.lt
            have hle2 := X3.lt
            have hbd := told_nonneg HLs.out.told j
            have hhl := HFX.out.health j hj
            clear C3 X3
            cases hdj : diedF Fs j with
            | false =>
              have hA := HLs.out.alive j hj hdj
              rw [hA.1] at b4
              rw [hA.2.1] at b3
              rw [hA.2.2] at b1
              rw [hdj] at dd
              rw [hA.1] at hhl
              have HDJ := hide hdj
              clear hA hdj
              generalize hhv : hurtF Fs j = hv at *
              have HHV := hide hhv
              clear hhv
              have hwh : wrap64 (L.health j - hv) = L.health j - hv := by simp only [wrap64]; omega
              go_wp2_with fail
              go_region
              · obtain ⟨⟨g1, g2⟩, gb⟩ := two_new wr #[.string (L.bname j), .bool (L.here j), .bool (L.keen j), .int .i64 (L.room j), .int .i64 (L.health j), .int .i64 (L.foe j)] #[.string (X.bname j), .bool (L.here j), .bool (X.keen j), .int .i64 (L.room j), .int .i64 (L.health j - hv), .int .i64 (X.foe j)] 31
                have N4 := R2.out.call gb
                generalize ((wr.alloc (.cells #[.string (L.bname j), .bool (L.here j), .bool (L.keen j), .int .i64 (L.room j), .int .i64 (L.health j), .int .i64 (L.foe j)] 31)).alloc (.cells #[.string (X.bname j), .bool (L.here j), .bool (X.keen j), .int .i64 (L.room j), .int .i64 (L.health j - hv), .int .i64 (X.foe j)] 31)).drew = W4 at *
                have hh4 := N4.hcell j hj
                have dd4 := N4.dcell j hj
                rw [hall] at hh4 dd4
                rw [HHV.out] at hh4
                rw [HDJ.out] at dd4
                have s1 : W4.cell? ⟨wr.heap.size, 1, none⟩ = some (.bool (L.here j)) := by rw [cell_of_row _ _ _ _ _ _ g1]; rfl
                have s3 : W4.cell? ⟨wr.heap.size, 3, none⟩ = some (.int .i64 (L.room j)) := by rw [cell_of_row _ _ _ _ _ _ g1]; rfl
                have s4 : W4.cell? ⟨wr.heap.size, 4, none⟩ = some (.int .i64 (L.health j)) := by rw [cell_of_row _ _ _ _ _ _ g1]; rfl
                have t1 : W4.cell? ⟨wr.heap.size + 1, 1, none⟩ = some (.bool (L.here j)) := by rw [cell_of_row _ _ _ _ _ _ g2]; rfl
                have t3 : W4.cell? ⟨wr.heap.size + 1, 3, none⟩ = some (.int .i64 (L.room j)) := by rw [cell_of_row _ _ _ _ _ _ g2]; rfl
                have t4 : W4.cell? ⟨wr.heap.size + 1, 4, none⟩ = some (.int .i64 (L.health j - hv)) := by rw [cell_of_row _ _ _ _ _ _ g2]; rfl
                have HN4 := hide N4
                clear g1 g2 gb N4 a0 a1 a2 a3 a4 a5 b0 b1 b2 b3 b4 b5 hh dd
                go_wp2_with fail
                go_quiet (fail)
                go_wp2_with fail
                go_quiet (fail)
                go_wp2
                go_roundw
                case rel => exact ⟨j + 1, by omega, by go_num, HN4.out.call (below_drewN (Below.refl _ _) _)⟩
                case measure => simp [intOf]; omega
              · obtain ⟨⟨g1, g2⟩, gb⟩ := two_new wr #[.string (X.bname j), .bool (L.here j), .bool (X.keen j), .int .i64 (L.room j), .int .i64 (L.health j - hv), .int .i64 (X.foe j)] #[.string (L.bname j), .bool (L.here j), .bool (L.keen j), .int .i64 (L.room j), .int .i64 (L.health j), .int .i64 (L.foe j)] 31
                have N4 := R2.out.call gb
                generalize ((wr.alloc (.cells #[.string (X.bname j), .bool (L.here j), .bool (X.keen j), .int .i64 (L.room j), .int .i64 (L.health j - hv), .int .i64 (X.foe j)] 31)).alloc (.cells #[.string (L.bname j), .bool (L.here j), .bool (L.keen j), .int .i64 (L.room j), .int .i64 (L.health j), .int .i64 (L.foe j)] 31)).drew = W4 at *
                have hh4 := N4.hcell j hj
                have dd4 := N4.dcell j hj
                rw [hall] at hh4 dd4
                rw [HHV.out] at hh4
                rw [HDJ.out] at dd4
                have s1 : W4.cell? ⟨wr.heap.size + 1, 1, none⟩ = some (.bool (L.here j)) := by rw [cell_of_row _ _ _ _ _ _ g2]; rfl
                have s3 : W4.cell? ⟨wr.heap.size + 1, 3, none⟩ = some (.int .i64 (L.room j)) := by rw [cell_of_row _ _ _ _ _ _ g2]; rfl
                have s4 : W4.cell? ⟨wr.heap.size + 1, 4, none⟩ = some (.int .i64 (L.health j)) := by rw [cell_of_row _ _ _ _ _ _ g2]; rfl
                have t1 : W4.cell? ⟨wr.heap.size, 1, none⟩ = some (.bool (L.here j)) := by rw [cell_of_row _ _ _ _ _ _ g1]; rfl
                have t3 : W4.cell? ⟨wr.heap.size, 3, none⟩ = some (.int .i64 (L.room j)) := by rw [cell_of_row _ _ _ _ _ _ g1]; rfl
                have t4 : W4.cell? ⟨wr.heap.size, 4, none⟩ = some (.int .i64 (L.health j - hv)) := by rw [cell_of_row _ _ _ _ _ _ g1]; rfl
                have HN4 := hide N4
                clear g1 g2 gb N4 a0 a1 a2 a3 a4 a5 b0 b1 b2 b3 b4 b5 hh dd
                go_wp2_with fail
                go_quiet (fail)
                go_wp2_with fail
                go_quiet (fail)
                go_wp2
                go_roundw
                case rel => exact ⟨j + 1, by omega, by go_num, HN4.out.call (below_drewN (Below.refl _ _) _)⟩
                case measure => simp [intOf]; omega
            | true =>
              have hD := HLs.out.dead j hj hdj
              rw [hD.2, show decide (2 ≤ j) = decide ((2 : Int) ≤ (j : Int)) by rw [Bool.eq_iff_iff]; simp; omega] at b1
              rw [hdj] at dd
              have hdl : decide (hurtF Fs j < L.health j) = false := decide_eq_false (by omega)
              have HDJ := hide hdj
              clear hD hdj
              generalize hhv : hurtF Fs j = hv at *
              have HHV := hide hhv
              clear hhv
              go_wp2_with fail
              go_region
              · obtain ⟨⟨g1, g2⟩, gb⟩ := two_new wr #[.string (L.bname j), .bool (L.here j), .bool (L.keen j), .int .i64 (L.room j), .int .i64 (L.health j), .int .i64 (L.foe j)] #[.string (X.bname j), .bool (decide ((2 : Int) ≤ (j : Int))), .bool (X.keen j), .int .i64 (X.room j), .int .i64 (X.health j), .int .i64 (X.foe j)] 31
                have N4 := R2.out.call gb
                generalize ((wr.alloc (.cells #[.string (L.bname j), .bool (L.here j), .bool (L.keen j), .int .i64 (L.room j), .int .i64 (L.health j), .int .i64 (L.foe j)] 31)).alloc (.cells #[.string (X.bname j), .bool (decide ((2 : Int) ≤ (j : Int))), .bool (X.keen j), .int .i64 (X.room j), .int .i64 (X.health j), .int .i64 (X.foe j)] 31)).drew = W4 at *
                have hh4 := N4.hcell j hj
                have dd4 := N4.dcell j hj
                rw [hall] at hh4 dd4
                rw [HHV.out] at hh4
                rw [HDJ.out] at dd4
                have s1 : W4.cell? ⟨wr.heap.size, 1, none⟩ = some (.bool (L.here j)) := by rw [cell_of_row _ _ _ _ _ _ g1]; rfl
                have s3 : W4.cell? ⟨wr.heap.size, 3, none⟩ = some (.int .i64 (L.room j)) := by rw [cell_of_row _ _ _ _ _ _ g1]; rfl
                have s4 : W4.cell? ⟨wr.heap.size, 4, none⟩ = some (.int .i64 (L.health j)) := by rw [cell_of_row _ _ _ _ _ _ g1]; rfl
                have t1 : W4.cell? ⟨wr.heap.size + 1, 1, none⟩ = some (.bool (decide ((2 : Int) ≤ (j : Int)))) := by rw [cell_of_row _ _ _ _ _ _ g2]; rfl
                have t3 : W4.cell? ⟨wr.heap.size + 1, 3, none⟩ = some (.int .i64 (X.room j)) := by rw [cell_of_row _ _ _ _ _ _ g2]; rfl
                have t4 : W4.cell? ⟨wr.heap.size + 1, 4, none⟩ = some (.int .i64 (X.health j)) := by rw [cell_of_row _ _ _ _ _ _ g2]; rfl
                have HN4 := hide N4
                clear g1 g2 gb N4 a0 a1 a2 a3 a4 a5 b0 b1 b2 b3 b4 b5 hh dd
                go_wp2_with fail
                go_quiet (fail)
                go_wp2_with fail
                go_quiet (fail)
                go_wp2
                go_roundw
                case rel => exact ⟨j + 1, by omega, by go_num, HN4.out.call (below_drewN (Below.refl _ _) _)⟩
                case measure => simp [intOf]; omega
              · obtain ⟨⟨g1, g2⟩, gb⟩ := two_new wr #[.string (X.bname j), .bool (decide ((2 : Int) ≤ (j : Int))), .bool (X.keen j), .int .i64 (X.room j), .int .i64 (X.health j), .int .i64 (X.foe j)] #[.string (L.bname j), .bool (L.here j), .bool (L.keen j), .int .i64 (L.room j), .int .i64 (L.health j), .int .i64 (L.foe j)] 31
                have N4 := R2.out.call gb
                generalize ((wr.alloc (.cells #[.string (X.bname j), .bool (decide ((2 : Int) ≤ (j : Int))), .bool (X.keen j), .int .i64 (X.room j), .int .i64 (X.health j), .int .i64 (X.foe j)] 31)).alloc (.cells #[.string (L.bname j), .bool (L.here j), .bool (L.keen j), .int .i64 (L.room j), .int .i64 (L.health j), .int .i64 (L.foe j)] 31)).drew = W4 at *
                have hh4 := N4.hcell j hj
                have dd4 := N4.dcell j hj
                rw [hall] at hh4 dd4
                rw [HHV.out] at hh4
                rw [HDJ.out] at dd4
                have s1 : W4.cell? ⟨wr.heap.size + 1, 1, none⟩ = some (.bool (L.here j)) := by rw [cell_of_row _ _ _ _ _ _ g2]; rfl
                have s3 : W4.cell? ⟨wr.heap.size + 1, 3, none⟩ = some (.int .i64 (L.room j)) := by rw [cell_of_row _ _ _ _ _ _ g2]; rfl
                have s4 : W4.cell? ⟨wr.heap.size + 1, 4, none⟩ = some (.int .i64 (L.health j)) := by rw [cell_of_row _ _ _ _ _ _ g2]; rfl
                have t1 : W4.cell? ⟨wr.heap.size, 1, none⟩ = some (.bool (decide ((2 : Int) ≤ (j : Int)))) := by rw [cell_of_row _ _ _ _ _ _ g1]; rfl
                have t3 : W4.cell? ⟨wr.heap.size, 3, none⟩ = some (.int .i64 (X.room j)) := by rw [cell_of_row _ _ _ _ _ _ g1]; rfl
                have t4 : W4.cell? ⟨wr.heap.size, 4, none⟩ = some (.int .i64 (X.health j)) := by rw [cell_of_row _ _ _ _ _ _ g1]; rfl
                have HN4 := hide N4
                clear g1 g2 gb N4 a0 a1 a2 a3 a4 a5 b0 b1 b2 b3 b4 b5 hh dd
                go_wp2_with fail
                go_quiet (fail)
                go_wp2_with fail
                go_quiet (fail)
                go_wp2
                go_roundw
                case rel => exact ⟨j + 1, by omega, by go_num, HN4.out.call (below_drewN (Below.refl _ _) _)⟩
                case measure => simp [intOf]; omega
          · have hj6 : j = 6 := by omega
            subst hj6
            have X3 := hide (X2.out.behind R2.out.low (Nat.le_refl _))
            have BF := hide (B2.out.trans (R2.out.low.mono B2.out.size))
            go_wp2_with (refine wl_land (.tmp 5) rfl rfl _ X rfl X3.out ?_)
            refine (good_any X _ (wf_fine HFX.out)).mono ?_
            rintro e w5 ⟨rfl, hb5⟩
            rw [HX.out.1]
            have BG := hide (BF.out.trans (hb5.mono BF.out.size))
            clear hb5
            go_wp2
            go_ret
            exact ⟨rfl, BG.out⟩
end Go.Proofs.YtaifjndkgfffpaaDoor
