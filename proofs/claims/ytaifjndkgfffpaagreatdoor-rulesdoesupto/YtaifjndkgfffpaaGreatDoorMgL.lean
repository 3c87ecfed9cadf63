/-
  To let all go, to begin, to die, to fight: contracts.
-/
import Derived.Test.YtaifjndkgfffpaaGreatDoorMgE
import Derived.Test.YtaifjndkgfffpaaGreatDoorMgF
namespace Go.Proofs.YtaifjndkgfffpaaGreatDoor
open Go.RowKit
set_option linter.unusedVariables false
theorem drop_zero (L : Ld) (b : Nat) : dropS L b [] = L := by simp [dropS]
theorem drop_next (L : Ld) (b i : Nat) (S : List Int) (hi : (i : Int) ∉ S) (h2 : L.kind i ≠ 2) : ((dropS L b S).setWh i 0).setLoc i (L.room b) = dropS L b (S ++ [(i : Int)]) := by
  unfold dropS Ld.setWh Ld.setLoc
  congr 1
  · funext j
    by_cases e : j = i
    · subst e; simp
    · have : ¬ (j : Int) = (i : Int) := by omega
      simp [e, this]
  · funext j
    by_cases e : j = i
    · subst e; simp
    · have : ¬ (j : Int) = (i : Int) := by omega
      simp [e, this]
  · funext j
    by_cases e : j = i
    · subst e; simp [hi, h2]
    · have : ¬ (j : Int) = (i : Int) := by omega
      simp [this]
theorem drop_cloak (L : Ld) (b i : Nat) (S : List Int) (h2 : L.kind i = 2) : (((dropS L b S).setWh i 0).setLoc i (L.room b)).setOn i false = dropS L b (S ++ [(i : Int)]) := by
  unfold dropS Ld.setWh Ld.setLoc Ld.setOn
  congr 1
  · funext j
    by_cases e : j = i
    · subst e; simp
    · have : ¬ (j : Int) = (i : Int) := by omega
      simp [e, this]
  · funext j
    by_cases e : j = i
    · subst e; simp
    · have : ¬ (j : Int) = (i : Int) := by omega
      simp [e, this]
  · funext j
    by_cases e : j = i
    · subst e; simp [h2]
    · have : ¬ (j : Int) = (i : Int) := by omega
      simp [e, this]
theorem free_zero (L : Ld) (b : Nat) : freeK L b 0 = L := by simp [freeK]
theorem free_yes (L : Ld) (b k : Nat) (h : L.foe k = (b : Int) + 1) : (freeK L b k).setFoe k 0 = freeK L b (k + 1) := by
  unfold freeK Ld.setFoe
  congr 1
  funext j
  by_cases e : j = k
  · subst e; simp [h]
  · by_cases e2 : j < k
    · simp [e, e2, show j < k + 1 by omega]
    · simp [e, e2, show ¬ j < k + 1 by omega]
theorem free_no (L : Ld) (b k : Nat) (h : L.foe k ≠ (b : Int) + 1) : freeK L b k = freeK L b (k + 1) := by
  unfold freeK
  congr 1
  funext j
  by_cases e : j = k
  · subst e; simp [h]
  · by_cases e2 : j < k
    · simp [e2, show j < k + 1 by omega]
    · simp [e2, show ¬ j < k + 1 by omega]
theorem hand_nodup (L : Ld) (b : Nat) : (handL L b).Nodup := by
  unfold handL hasK
  unfold List.Nodup
  rw [List.pairwise_map]
  exact (List.Pairwise.filter _ List.nodup_range).imp fun h e => h (Int.ofNat.inj e)
theorem nodup_take {q : List Int} (h : q.Nodup) {k : Nat} (hk : k < q.length) : q.getD k 0 ∉ q.take k := by
  have e : q = q.take k ++ q.drop k := (List.take_append_drop k q).symm
  have hd : q.drop k = q.getD k 0 :: q.drop (k + 1) := by rw [List.drop_eq_getElem_cons hk]; simp [hk]
  rw [e, hd] at h
  have := (List.nodup_append.1 h).2.2
  intro hm
  exact this _ hm _ (List.mem_cons_self ..) rfl

set_option maxRecDepth 100000 in
set_option maxHeartbeats 2000000 in
theorem letGo_any {w0 : World} {L : Ld} {Es : List Ev} {w : World} (hS : Sn 47 [] w0 L Es w) (hf : Fine L) (b : Nat) (hb : b < 6) :
    Calls Tryz.prog 44 #[.pointer (some ⟨w0.heap.size, 0, none⟩), .int .i64 (b : Int)] w fun e w' => e = .returned (.tuple #[]) ∧ Sn 47 [] w0 (letGoL L b) Es w' ∧ Stp w0.heap.size 165 w w' := by
  obtain ⟨r, hr, er⟩ := hf.room b hb
  have HER := hide er
  have HF := hide hf
  have hbi : (b : Int) < 6 := by omega
  clear hf er
  go_enter Tryz.func44, Tryz.ntmps44
  go_wp2_with fail
  refine (rhand_any hS b).mono ?_
  rintro e w1 ⟨v, rfl, ho, hb1⟩
  have S1 := hide (hS.below hb1)
  have T1 := hide (hS.stp hb1 165)
  have N1 := hide (numk_own hS hb1 ho)
  obtain ⟨av, cap, rfl⟩ := ho.shape
  clear ho hb1 hS
  have hlq := hand_len L b
  generalize hq : handL L b = q at *
  have HQ := hide hq
  clear hq
  generalize hn : q.length = n at *
  have HNn := hide hn
  clear hn
  go_wp2_with fail
  go_loopw [20] (fun c wr => ∃ k : Nat, k ≤ n ∧ c = .int .i64 k ∧ Sn 47 [] w0 (dropS L b (q.take k)) Es wr ∧ Stp w0.heap.size 165 w wr ∧ NumK w0.heap.size 165 wr (.slice av n cap) q) (fun c _ => n - (intOf c).toNat)
  case atStart => exact ⟨0, by omega, rfl, by rw [List.take_zero, drop_zero]; exact S1.out, T1.out, N1.out⟩
  case round =>
    obtain ⟨k, hle, rfl, Rh, Th, Nh⟩ := hrel
    have R := hide Rh
    have TT := hide Th
    have N := hide Nh
    clear Rh Th Nh S1 T1 N1
    by_cases hk : k < n
    · have hkq : k < q.length := by rw [HNn.out]; exact hk
      obtain ⟨bq, off, cap', e, hcell⟩ := N.out.cell hkq
      rw [HNn.out] at e
      injection e with e1 e2 e3
      subst e1 e3
      have hmem : q.getD k 0 ∈ handL L b := by rw [HQ.out]; exact getD_mem hkq
      obtain ⟨i, ei, hi⟩ := hand_lt hmem
      have hnm : (i : Int) ∉ q.take k := by
        rw [← ei]
        exact nodup_take (by rw [← HQ.out]; exact hand_nodup L b) hkq
      have HT := hide (show q.take (k + 1) = q.take k ++ [(i : Int)] by rw [take_snoc hkq, ei])
      rw [ei] at hcell
      have hci : (i : Int) < 9 := by omega
      have c1 := R.out.thing i 1 hi (by omega)
      have c2 := R.out.thing i 2 hi (by omega)
      have c3 := R.out.thing i 3 hi (by omega)
      have c4 := R.out.thing i 4 hi (by omega)
      have m3 := R.out.being b 3 hb (by omega)
      have f2 := R.out.soft (84 + i * 5 + 2)
      have f3 := R.out.soft (84 + i * 5 + 3)
      have f4 := R.out.soft (84 + i * 5 + 4)
      simp only [Ld.thingCell, Ld.beingCell] at c1 c2 c3 c4 m3
      have em : (dropS L b (q.take k)).room b = L.room b := rfl
      have ek : (dropS L b (q.take k)).kind i = L.kind i := rfl
      rw [em] at m3
      rw [ek] at c1
      have X2 := (R.out.set (by omega) ((dropS L b (q.take k)).up_wh i hi 0)).set (by omega) (((dropS L b (q.take k)).setWh i 0).up_loc i hi (L.room b))
      have Y2 := (TT.out.trans (R.out.step (n := 84 + i * 5 + 2) (by omega) (.int .i64 0))).trans (Stp.put (o := 165) (n := 84 + i * 5 + 3) (x := .int .i64 (L.room b)) (by omega))
      have Z2 := (N.out.step (R.out.step (n := 84 + i * 5 + 2) (by omega) (.int .i64 0))).step (Stp.put (o := 165) (n := 84 + i * 5 + 3) (x := .int .i64 (L.room b)) (by omega))
      by_cases h2 : L.kind i = 2
      · have hb2 : (L.kind i == 2) = true := by simp [h2]
        have X := hide (X2.set (by omega) ((((dropS L b (q.take k)).setWh i 0).setLoc i (L.room b)).up_on i hi false))
        have Y := hide (Y2.trans (Stp.put (o := 165) (n := 84 + i * 5 + 4) (x := .bool false) (by omega)))
        have Z := hide (Z2.step (Stp.put (o := 165) (n := 84 + i * 5 + 4) (x := .bool false) (by omega)))
        rw [drop_cloak L b i _ h2] at X
        clear X2 Y2 Z2 em ek h2 hmem ei hnm
        go_wp2
        go_roundw
        case rel => exact ⟨k + 1, by omega, by go_num, by rw [HT.out]; exact X.out, Y.out, Z.out⟩
        case measure => simp [intOf]; omega
      · have hb2 : (L.kind i == 2) = false := by simp [h2]
        have X := hide X2
        have Y := hide Y2
        have Z := hide Z2
        rw [drop_next L b i _ hnm h2] at X
        clear X2 Y2 Z2 em ek h2 hmem ei hnm
        go_wp2
        go_roundw
        case rel => exact ⟨k + 1, by omega, by go_num, by rw [HT.out]; exact X.out, Y.out, Z.out⟩
        case measure => simp [intOf]; omega
    · have hkn : k = n := by omega
      subst hkn
      have R0 := R.out
      rw [show q.take k = q by rw [← HNn.out]; exact List.take_length] at R0
      have R1 := hide R0
      clear R0 R N
      go_wp2_with fail
      generalize hM : dropS L b q = M at *
      have HM := hide hM
      clear hM
      go_loopw [49] (fun c wr => ∃ k : Nat, k ≤ 6 ∧ c = .int .i64 k ∧ Sn 47 [] w0 (freeK M b k) Es wr ∧ Stp w0.heap.size 165 w wr) (fun c _ => 6 - (intOf c).toNat)
      case atStart => exact ⟨0, by omega, rfl, by rw [free_zero]; exact R1.out, TT.out⟩
      case round =>
        obtain ⟨j, hlj, rfl, Rh, Th⟩ := hrel
        have R := hide Rh
        have T2 := hide Th
        clear Rh Th R1 TT
        by_cases hj : j < 6
        · have hji : (j : Int) < 6 := by omega
          have c5 := R.out.being j 5 hj (by omega)
          have f5 := R.out.soft (129 + j * 6 + 5)
          simp only [Ld.beingCell] at c5
          have ef : (freeK M b j).foe j = M.foe j := by simp [freeK]
          rw [ef] at c5
          have hwb : wrap64 ((b : Int) + 1) = (b : Int) + 1 := by simp only [wrap64]; omega
          by_cases h : M.foe j = (b : Int) + 1
          · have hbf : (M.foe j == (b : Int) + 1) = true := by simp [h]
            have X := hide (R.out.set (by omega) ((freeK M b j).up_foe j hj 0))
            have Y := hide (T2.out.trans (R.out.step (n := 129 + j * 6 + 5) (by omega) (.int .i64 0)))
            rw [free_yes M b j h] at X
            clear h ef
            go_wp2
            go_roundw
            case rel => exact ⟨j + 1, by omega, by go_num, X.out, Y.out⟩
            case measure => simp [intOf]; omega
          · have hbf : (M.foe j == (b : Int) + 1) = false := by simp [h]
            have X := hide R.out
            rw [free_no M b j h] at X
            clear h ef
            go_wp2
            go_roundw
            case rel => exact ⟨j + 1, by omega, by go_num, X.out, T2.out⟩
            case measure => simp [intOf]; omega
        · have hj6 : j = 6 := by omega
          subst hj6
          have c5 := R.out.being b 5 hb (by omega)
          have f5 := R.out.soft (129 + b * 6 + 5)
          simp only [Ld.beingCell] at c5
          have X := hide (R.out.set (by omega) ((freeK M b 6).up_foe b hb 0))
          have Y := hide (T2.out.trans (R.out.step (n := 129 + b * 6 + 5) (by omega) (.int .i64 0)))
          have HV := hide (show letGoL L b = (freeK M b 6).setFoe b 0 by unfold letGoL; rw [HQ.out, HM.out])
          clear R T2
          go_wp2
          go_end0
          exact ⟨rfl, by rw [HV.out]; exact X.out, Y.out⟩
/-
  A whole being is stored in a scene.
-/
/-- A whole being is stored. -/
theorem Sn.whole {T : TypeId} {pre : List Value} {w0 w : World} {L : Ld} {Es : List Ev} (h : Sn T pre w0 L Es w) (b : Nat) (hb : b < 6) (nm : ByteArray) (here keen : Bool) (room health foe : Int) :
    Sn T pre w0 (L.setBeing b nm here keen room health foe) Es (w.setCells w0.heap.size (129 + b * 6) [.string nm, .bool here, .bool keen, .int .i64 room, .int .i64 health, .int .i64 foe]) ∧
      Stp w0.heap.size (165 + pre.length) w (w.setCells w0.heap.size (129 + b * 6) [.string nm, .bool here, .bool keen, .int .i64 room, .int .i64 health, .int .i64 foe]) := by
  have h0 := h.set (by omega) (L.up_name b hb nm)
  have h1 := h0.set (by omega) ((L.setName b nm).up_here b hb here)
  have h2 := h1.set (by omega) (((L.setName b nm).setHere b here).up_keen b hb keen)
  have h3 := h2.set (by omega) ((((L.setName b nm).setHere b here).setKeen b keen).up_room b hb room)
  have h4 := h3.set (by omega) (((((L.setName b nm).setHere b here).setKeen b keen).setRoom b room).up_health b hb health)
  have h5 := h4.set (by omega) ((((((L.setName b nm).setHere b here).setKeen b keen).setRoom b room).setHealth b health).up_foe b hb foe)
  have e1 : ∀ k, 129 + b * 6 + k + 1 = 129 + b * 6 + (k + 1) := fun k => by omega
  simp only [World.setCells, Nat.add_assoc, Nat.reduceAdd] at h5 ⊢
  rw [Ld.setBeing_eq]
  refine ⟨h5, ?_⟩
  exact (((((Stp.put (by omega)).trans (Stp.put (by omega))).trans (Stp.put (by omega))).trans (Stp.put (by omega))).trans (Stp.put (by omega))).trans (Stp.put (by omega))
theorem Sn.there {T : TypeId} {pre : List Value} {w0 w : World} {L : Ld} {Es : List Ev} (h : Sn T pre w0 L Es w) (b : Nat) (hb : b < 6) : w.there w0.heap.size (129 + b * 6) 6 := fun j hj => by
  refine ⟨?_, h.soft _⟩
  rw [h.being b j hb hj]; rfl
theorem wl_whole {ops : Array Oper} {rest : List Oper} {op : Oper} {a : Act} {w : World} {Q : Exit → Act → World → Prop} (x y : Operand) (ho : op.op = .store 31 x y) (hw : Region.wanted op (yielded ops a.tmps) = true) {T : TypeId} {pre : List Value} {w0 : World} {L : Ld} {Es : List Ev} (b : Nat) (hb : b < 6)
    (nm : ByteArray) (here keen : Bool) (room health foe : Int)
    (hx : a.eval x = .pointer (some ⟨w0.heap.size, 129 + b * 6, none⟩)) (hy : a.eval y = .agg #[.string nm, .bool here, .bool keen, .int .i64 room, .int .i64 health, .int .i64 foe]) (hc : Sn T pre w0 L Es w)
    (h : wpList Tryz.prog ops Q rest (a.put op.dst undef) (w.setCells w0.heap.size (129 + b * 6) [.string nm, .bool here, .bool keen, .int .i64 room, .int .i64 health, .int .i64 foe])) : wpList Tryz.prog ops Q (op :: rest) a w :=
  wl_wanted hw (wp_store_mid 31 x y ho w0.heap.size (129 + b * 6) #[.string nm, .bool here, .bool keen, .int .i64 room, .int .i64 health, .int .i64 foe] hx hy (hc.there b hb) Tryz.sizeBeing (by simp [Value.oneCell']) h)
end Go.Proofs.YtaifjndkgfffpaaGreatDoor
