/-
  The document's own turn: all is let go: the contract.
-/
import Derived.Test.YtaifjndkgfffpaaGreatDoorMgW
import Derived.Test.YtaifjndkgfffpaaGreatDoorMgL
import Derived.Test.YtaifjndkgfffpaaGreatDoorRfAdd
import Derived.Test.YtaifjndkgfffpaaGreatDoorRfLook
import Derived.Test.YtaifjndkgfffpaaGreatDoorMg2
import Derived.Test.YtaifjndkgfffpaaGreatDoorMgG
namespace Go.Proofs.YtaifjndkgfffpaaGreatDoor
open Go.RowKit
set_option linter.unusedVariables false
theorem hasK_out {L : Ld} {wh loc : Int} {k : Nat} : (k : Int) ∉ hasK L wh loc k := by
  intro h
  unfold hasK at h
  obtain ⟨j, hj, e⟩ := List.mem_map.1 h
  have h1 : j < k := by simpa using (List.mem_filter.1 hj).1
  have h2 : j = k := Int.ofNat.inj e
  omega
theorem free_foe (M : Ld) (b : Nat) (k : Nat) : freeK (M.setFoe b 0) b k = (freeK M b k).setFoe b 0 := by
  unfold freeK Ld.setFoe
  congr 1
  funext c
  by_cases e : c = b
  · simp only [e, if_true]
    split <;> rfl
  · simp only [e, if_false]
theorem letGo_eq (L : Ld) (b : Nat) : freeK ((dropS L b (hasK L 1 (b : Int) 9)).setFoe b 0) b 6 = letGoL L b := by rw [free_foe]; rfl

set_option maxRecDepth 100000 in
set_option maxHeartbeats 4000000 in
theorem leave_any {w0 : World} {L : Ld} {Es : List Ev} {w : World} {b : Nat} (hS : Sn 52 [.int .i64 (b : Int)] w0 L Es w) (hf : Fine L) (hb : b < 6) :
    Calls Tryz.prog 21 #[.pointer (some ⟨w0.heap.size, 0, none⟩)] w fun e w' => e = .returned (.tuple #[]) ∧ Sn 52 [.int .i64 (b : Int)] w0 (letGoL L b) Es w' ∧ Stp w0.heap.size 166 w w' := by
  have hbi : (b : Int) < 6 := by omega
  have HV := hide (letGo_eq L b)
  have S0 := hide hS
  clear hS
  go_enter Tryz.func21, Tryz.ntmps21
  go_wp2_with fail
  go_loopw [5] (fun c wr => ∃ k : Nat, k ≤ 9 ∧ c = .int .i64 k ∧ Sn 52 [.int .i64 (b : Int)] w0 (dropS L b (hasK L 1 (b : Int) k)) Es wr ∧ Stp w0.heap.size 166 w wr) (fun c _ => 9 - (intOf c).toNat)
  case atStart => exact ⟨0, by omega, rfl, by rw [show hasK L 1 (b : Int) 0 = [] from rfl, drop_zero]; exact S0.out, Stp.refl _ _ _⟩
  case round =>
    obtain ⟨k, hle, rfl, Rh, Th⟩ := hrel
    have R := hide Rh
    have TT := hide Th
    clear Rh Th S0
    by_cases hk : k < 9
    · have hki : (k : Int) < 9 := by omega
      have hnm := hasK_out (L := L) (wh := 1) (loc := (b : Int)) (k := k)
      have c1 := R.out.thing k 1 hk (by omega)
      have c2 := R.out.thing k 2 hk (by omega)
      have c3 := R.out.thing k 3 hk (by omega)
      have cb : wr.cell? ⟨w0.heap.size, 165, none⟩ = some (.int .i64 (b : Int)) := R.out.fore 0 (by simp)
      simp only [Ld.thingCell] at c1 c2 c3
      have ew : (dropS L b (hasK L 1 (b : Int) k)).wh k = L.wh k := by show (if (k : Int) ∈ _ then 0 else L.wh k) = _; rw [if_neg hnm]
      have el : (dropS L b (hasK L 1 (b : Int) k)).loc k = L.loc k := by show (if (k : Int) ∈ _ then L.room b else L.loc k) = _; rw [if_neg hnm]
      have ek : (dropS L b (hasK L 1 (b : Int) k)).kind k = L.kind k := rfl
      have er : (dropS L b (hasK L 1 (b : Int) k)).room b = L.room b := rfl
      rw [ek] at c1
      rw [ew] at c2
      rw [el] at c3
      clear ew el ek
      by_cases h1 : L.wh k = 1
      · have e1 : (L.wh k == 1) = true := by simp [h1]
        by_cases h2 : L.loc k = (b : Int)
        · have e2 : (L.loc k == (b : Int)) = true := by simp [h2]
          have HN := hide (hasK_yes (L := L) (wh := 1) (loc := (b : Int)) (k := k) (by simp [isAt, h1, h2]))
          have HNM := hide hnm
          clear h1 h2 hnm
          generalize hasK L 1 (b : Int) k = S at *
          go_wp2_with fail
          go_quiet (fail)
          go_wp2_with fail
          refine (there_any (R.out.drewN nq) hb).mono ?_
          rintro e w1 ⟨rfl, n1, hw1⟩
          rw [er]
          have R1 := hide (show Sn 52 [.int .i64 (b : Int)] w0 (dropS L b S) Es w1 by rw [hw1]; exact (R.out.drewN nq).drewN n1)
          have T1 := hide (show Stp w0.heap.size 166 w w1 by rw [hw1]; exact TT.out.trans ((R.out.stp (below_drewN (Below.refl _ _) nq) 166).trans ((R.out.drewN nq).stp (below_drewN (Below.refl _ _) n1) 166)))
          clear hw1 R TT c1 c2 c3 cb er
          have c1 := R1.out.thing k 1 hk (by omega)
          have c2 := R1.out.thing k 2 hk (by omega)
          have c3 := R1.out.thing k 3 hk (by omega)
          have c4 := R1.out.thing k 4 hk (by omega)
          have f2 := R1.out.soft (84 + k * 5 + 2)
          have f3 := R1.out.soft (84 + k * 5 + 3)
          have f4 := R1.out.soft (84 + k * 5 + 4)
          simp only [Ld.thingCell] at c1 c2 c3 c4
          have ek : (dropS L b S).kind k = L.kind k := rfl
          rw [ek] at c1
          have X2 := (R1.out.set (by omega) ((dropS L b S).up_wh k hk 0)).set (by omega) (((dropS L b S).setWh k 0).up_loc k hk (L.room b))
          have Y2 := (T1.out.trans (R1.out.step (n := 84 + k * 5 + 2) (by omega) (.int .i64 0))).trans (Stp.put (o := 166) (n := 84 + k * 5 + 3) (x := .int .i64 (L.room b)) (by omega))
          by_cases h2 : L.kind k = 2
          · have hb2 : (L.kind k == 2) = true := by simp [h2]
            have X := hide (X2.set (by omega) ((((dropS L b S).setWh k 0).setLoc k (L.room b)).up_on k hk false))
            have Y := hide (Y2.trans (Stp.put (o := 166) (n := 84 + k * 5 + 4) (x := .bool false) (by omega)))
            rw [drop_cloak L b k _ h2] at X
            clear X2 Y2 ek h2 R1 T1
            go_wp2
            go_roundw
            case rel => exact ⟨k + 1, by omega, by go_num, by rw [HN.out]; exact X.out, Y.out⟩
            case measure => simp [intOf]; omega
          · have hb2 : (L.kind k == 2) = false := by simp [h2]
            have X := hide X2
            have Y := hide Y2
            rw [drop_next L b k _ HNM.out h2] at X
            clear X2 Y2 ek h2 R1 T1
            go_wp2
            go_roundw
            case rel => exact ⟨k + 1, by omega, by go_num, by rw [HN.out]; exact X.out, Y.out⟩
            case measure => simp [intOf]; omega
        · have e2 : (L.loc k == (b : Int)) = false := by simp [h2]
          have HN := hide (hasK_no (L := L) (wh := 1) (loc := (b : Int)) (k := k) (by simp [isAt, h2]))
          clear h1 h2 hnm
          generalize hasK L 1 (b : Int) k = S at *
          go_wp2_with fail
          go_quiet (fail)
          go_wp2
          go_roundw
          case rel => exact ⟨k + 1, by omega, by go_num, by rw [HN.out]; exact R.out.drewN _, TT.out.trans (R.out.stp (below_drewN (Below.refl _ _) _) 166)⟩
          case measure => simp [intOf]; omega
      · have e1 : (L.wh k == 1) = false := by simp [h1]
        have HN := hide (hasK_no (L := L) (wh := 1) (loc := (b : Int)) (k := k) (by simp [isAt, h1]))
        clear h1 hnm
        generalize hasK L 1 (b : Int) k = S at *
        go_wp2_with fail
        go_quiet (fail)
        go_wp2
        go_roundw
        case rel => exact ⟨k + 1, by omega, by go_num, by rw [HN.out]; exact R.out.drewN _, TT.out.trans (R.out.stp (below_drewN (Below.refl _ _) _) 166)⟩
        case measure => simp [intOf]; omega
    · have hk9 : k = 9 := by omega
      subst hk9
      generalize dropS L b (hasK L 1 (b : Int) 9) = M at *
      have c5 := R.out.being b 5 hb (by omega)
      have f5 := R.out.soft (129 + b * 6 + 5)
      have cb : wr.cell? ⟨w0.heap.size, 165, none⟩ = some (.int .i64 (b : Int)) := R.out.fore 0 (by simp)
      simp only [Ld.beingCell] at c5
      have X0 : Hid (Sn 52 [.int .i64 (b : Int)] w0 (M.setFoe b 0) Es (wr.drew.setCell ⟨w0.heap.size, 129 + b * 6 + 5, none⟩ (.int .i64 0))) := R.out.drew.set (by omega) (M.up_foe b hb 0)
      have Y0 : Hid (Stp w0.heap.size 166 w (wr.drew.setCell ⟨w0.heap.size, 129 + b * 6 + 5, none⟩ (.int .i64 0))) := TT.out.trans ((R.out.stp (below_drewN (Below.refl _ _) 1) 166).trans (Stp.put (by omega)))
      clear R TT
      go_wp2_with fail
      go_region
      generalize M.setFoe b 0 = M2 at *
      go_wp2_with fail
      go_loopw [57] (fun c wr => ∃ k : Nat, k ≤ 6 ∧ c = .int .i64 k ∧ Sn 52 [.int .i64 (b : Int)] w0 (freeK M2 b k) Es wr ∧ Stp w0.heap.size 166 w wr) (fun c _ => 6 - (intOf c).toNat)
      case atStart => exact ⟨0, by omega, rfl, by rw [free_zero]; exact X0.out, Y0.out⟩
      case round =>
        obtain ⟨j, hlj, rfl, Rh, Th⟩ := hrel
        have R := hide Rh
        have T2 := hide Th
        clear Rh Th X0 Y0
        by_cases hj : j < 6
        · have hji : (j : Int) < 6 := by omega
          have c5 := R.out.being j 5 hj (by omega)
          have f5 := R.out.soft (129 + j * 6 + 5)
          have cb : wr.cell? ⟨w0.heap.size, 165, none⟩ = some (.int .i64 (b : Int)) := R.out.fore 0 (by simp)
          simp only [Ld.beingCell] at c5
          have ef : (freeK M2 b j).foe j = M2.foe j := by simp [freeK]
          rw [ef] at c5
          have hwb : wrap64 ((b : Int) + 1) = (b : Int) + 1 := by simp only [wrap64]; omega
          by_cases h : M2.foe j = (b : Int) + 1
          · have hbf : (M2.foe j == (b : Int) + 1) = true := by simp [h]
            have X := R.out.set (x := .int .i64 0) (by omega) ((freeK M2 b j).up_foe j hj 0)
            rw [free_yes M2 b j h] at X
            have HFY := hide (free_yes M2 b j h)
            clear h ef X
            go_wp2_with fail
            go_quiet (fail)
            go_wp2
            go_roundw
            case rel => exact ⟨j + 1, by omega, by go_num, by rw [← HFY.out]; exact (R.out.drewN _).set (by omega) ((freeK M2 b j).up_foe j hj 0), T2.out.trans ((R.out.stp (below_drewN (Below.refl _ _) _) 166).trans (Stp.put (by omega)))⟩
            case measure => simp [intOf]; omega
          · have hbf : (M2.foe j == (b : Int) + 1) = false := by simp [h]
            have HFY := hide (free_no M2 b j h)
            clear h ef
            go_wp2_with fail
            go_quiet (fail)
            go_wp2
            go_roundw
            case rel => exact ⟨j + 1, by omega, by go_num, by rw [← HFY.out]; exact R.out.drewN _, T2.out.trans (R.out.stp (below_drewN (Below.refl _ _) _) 166)⟩
            case measure => simp [intOf]; omega
        · have hj6 : j = 6 := by omega
          subst hj6
          go_wp2
          go_end0
          exact ⟨rfl, by rw [← HV.out]; exact R.out, T2.out⟩
/-
  The document's own turn: made, and whose it is: what lies in memory.
-/
theorem more_fore (L : Ld) (x y v : Value) : (L.more [x] v).setIfInBounds 165 y = L.more [y] v := by
  apply Array.ext_getElem?
  intro m
  rw [Array.getElem?_setIfInBounds]
  by_cases e : 165 = m
  · subst e
    rw [if_pos rfl, if_pos (by rw [more_size]; simp)]
    exact (more_pre L [y] v 0 (by simp)).symm
  · rw [if_neg e]
    unfold Ld.more
    by_cases hm : m < 165
    · rw [Array.getElem?_append_left (by rw [L.size]; exact hm), Array.getElem?_append_left (by rw [L.size]; exact hm)]
    · rw [Array.getElem?_append_right (by rw [L.size]; omega), Array.getElem?_append_right (by rw [L.size]; omega), L.size]
      obtain ⟨j, rfl⟩ : ∃ j, m = 166 + j := ⟨m - 166, by omega⟩
      rw [show 166 + j - 165 = j + 1 by omega]
      simp
theorem Sn.whose {T : TypeId} {x : Value} {w0 w : World} {L : Ld} {Es : List Ev} (h : Sn T [x] w0 L Es w) (y : Value) : Sn T [y] w0 L Es (w.setCell ⟨w0.heap.size, 165, none⟩ y) := by
  obtain ⟨v, hv, ho⟩ := h.ex
  refine ⟨⟨v, ?_, ownsRow_setCell_below ho (by simp) y⟩, h.low.setCell (by simp) _⟩
  rw [setCell_eq_setRow w _ 165 _ _ _ _ hv, setRow_heap w _ _ _ _ _ hv, more_fore]
theorem Tryz.zTurn : (Tryz.prog.info? 52).map (fun i => (i.zero, i.size)) = some (some (.agg (zl.more [.int .i64 0] (.slice none 0 0))), 167) := by kernel_rfl
theorem Tryz.pTurn : (Tryz.prog.fieldsOf 52).toList.mapM (fun f => (Tryz.prog.info? f.type).map fun i => (f.offset, i.size)) = some [(0, 165), (165, 1), (166, 1)] := by kernel_rfl
theorem built_turn_of (L : Ld) (rest : List (Nat × Value)) (r : Array Value) (h : Instr.fill (fun x => #[(0, 165), (165, 1), (166, 1)][x]?) (L.more [.int .i64 0] (.slice none 0 0)) rest = some r) : Tryz.prog.built 52 ((0, .agg L.cells) :: rest) = some r := by
  obtain ⟨hz, hs⟩ := zero_of_info Tryz.zTurn
  cases hi : Tryz.prog.info? 52 with
  | none => rw [hi] at hs; simp at hs
  | some it =>
    have hz' : it.zero = some (.agg (zl.more [.int .i64 0] (.slice none 0 0))) := by
      have := Tryz.zTurn
      rw [hi] at this
      simp at this
      exact this.1
    have hu : Tryz.prog.underlying 52 = some (.struct (Tryz.prog.fieldsOf 52)) := by simp [Program.fieldsOf, Tryz.underlying52]
    unfold Program.built
    simp only [hi, hu, hz', Tryz.pTurn]
    rw [← h]
    refine fill_land L [.int .i64 0] (.slice none 0 0) _ ?_ rest
    rfl
theorem built_turn_at (L : Ld) (b : Int) : Tryz.prog.built 52 [(0, .agg L.cells), (1, .int .i64 b)] = some (L.more [.int .i64 b] (.slice none 0 0)) := by
  refine built_turn_of L _ _ ?_
  have hc : (Value.int .i64 b).cells = #[.int .i64 b] := rfl
  have hp : (#[(0, 165), (165, 1), (166, 1)] : Array (Nat × Nat))[1]? = some (165, 1) := rfl
  simp only [Instr.fill, hp, hc]
  rw [if_neg (by simp [more_size])]
  rw [← Array.foldl_toList, Array.toList_zipIdx]
  simp only [List.zipIdx_cons, List.zipIdx_nil, List.foldl_cons, List.foldl_nil, Nat.add_zero]
  rw [more_fore]
theorem tn_start (L : Ld) (x : Value) (w0 : World) : Sn 52 [x] w0 L [] (w0.alloc (.cells (L.more [x] (.slice none 0 0)) 52)) :=
  ⟨⟨_, heap_alloc_new w0 _, World.ownsRow_nil _ _ _ _⟩, below_box w0 _⟩
/-- What the last region's loads read: the land, and the row. -/
structure Ht (g : Nat) (L : Ld) (v : Value) (W : World) : Prop where
  land : W.rangeAt g 0 L.cells.toList
  row : W.cell? ⟨g, 166, none⟩ = some v
theorem Ht.setRow {g k : Nat} {L : Ld} {v : Value} {W : World} (h : Ht g L v W) (hk : g ≠ k) {cs : Array Value} : Ht g L v (W.setRow k cs) := by
  have e := setRow_off W k g cs hk
  exact ⟨fun j x hx => by rw [← h.land j x hx]; simp only [World.cell?, e], by rw [← h.row]; simp only [World.cell?, e]⟩
/-- What the document's turn adds is the program's event. -/
theorem add_evN (L : Ld) (b : Nat) (kind : Int) : addE L b kind (-1) 0 0 ⟨#[]⟩ ⟨#[]⟩ ⟨#[]⟩ = evN L kind b := rfl
end Go.Proofs.YtaifjndkgfffpaaGreatDoor
