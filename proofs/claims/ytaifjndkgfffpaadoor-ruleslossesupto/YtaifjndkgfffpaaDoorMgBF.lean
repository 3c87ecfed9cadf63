/-
  A whole being is stored in a scene.
-/
import Derived.Test.YtaifjndkgfffpaaDoorRuFt
namespace Go.Proofs.YtaifjndkgfffpaaDoor
open Go.RowKit
set_option linter.unusedVariables false

/-- A whole being is stored. -/
theorem Sn.whole {T : TypeId} {pre : List Value} {w0 w : World} {L : Ld} {Es : List Ev} (h : Sn T pre w0 L Es w) (b : Nat) (hb : b < 6) (nm : ByteArray) (here keen : Bool) (room health foe : Int) :
    Sn T pre w0 (L.setBeing b nm here keen room health foe) Es (w.setCells w0.heap.size (129 + b * 6) [.string nm, .bool here, .bool keen, .int .i64 room, .int .i64 health, .int .i64 foe]) ∧
      Stp w0.heap.size (165 + pre.length) w (w.setCells w0.heap.size (129 + b * 6) [.string nm, .bool here, .bool keen, .int .i64 room, .int .i64 health, .int .i64 foe]) := by
  have h0 := h.set (by omega) (L.up_name b hb nm)
  have h1 := h0.set (by omega) ((L.setName b nm).up_here b hb here)
  have h2 := h1.set (by omega) (((L.setName b nm).setHere b here).up_keen b hb keen)
  have h3 := h2.set (by omega) ((((L.setName b nm).setHere b here).setKeen b keen).up_room b hb room)
  have h4 := h3.set (by omega) (((((L.setName b nm).setHere b here).setKeen b keen).setRoom b room).up_health b hb health)
  have h5 := h4.set (by omega) ((((((L.setName b nm).setHere b here).setKeen b keen).setRoom b room).setHealth b health).up_foe b hb foe)
  have e1 : ∀ k, 129 + b * 6 + k + 1 = 129 + b * 6 + (k + 1) := fun k => by omega
  simp only [World.setCells, Nat.add_assoc, Nat.reduceAdd] at h5 ⊢
  rw [Ld.setBeing_eq]
  refine ⟨h5, ?_⟩
  exact (((((Stp.put (by omega)).trans (Stp.put (by omega))).trans (Stp.put (by omega))).trans (Stp.put (by omega))).trans (Stp.put (by omega))).trans (Stp.put (by omega))
theorem Sn.there {T : TypeId} {pre : List Value} {w0 w : World} {L : Ld} {Es : List Ev} (h : Sn T pre w0 L Es w) (b : Nat) (hb : b < 6) : w.there w0.heap.size (129 + b * 6) 6 := fun j hj => by
  refine ⟨?_, h.soft _⟩
  rw [h.being b j hb hj]; rfl
theorem wl_whole {ops : Array Oper} {rest : List Oper} {op : Oper} {a : Act} {w : World} {Q : Exit → Act → World → Prop} (x y : Operand) (ho : op.op = .store 31 x y) (hw : Region.wanted op (yielded ops a.tmps) = true) {T : TypeId} {pre : List Value} {w0 : World} {L : Ld} {Es : List Ev} (b : Nat) (hb : b < 6)
    (nm : ByteArray) (here keen : Bool) (room health foe : Int)
    (hx : a.eval x = .pointer (some ⟨w0.heap.size, 129 + b * 6, none⟩)) (hy : a.eval y = .agg #[.string nm, .bool here, .bool keen, .int .i64 room, .int .i64 health, .int .i64 foe]) (hc : Sn T pre w0 L Es w)
    (h : wpList Tryd.prog ops Q rest (a.put op.dst undef) (w.setCells w0.heap.size (129 + b * 6) [.string nm, .bool here, .bool keen, .int .i64 room, .int .i64 health, .int .i64 foe])) : wpList Tryd.prog ops Q (op :: rest) a w :=
  wl_wanted hw (wp_store_mid 31 x y ho w0.heap.size (129 + b * 6) #[.string nm, .bool here, .bool keen, .int .i64 room, .int .i64 health, .int .i64 foe] hx hy (hc.there b hb) Tryd.sizeBeing (by simp [Value.oneCell']) h)

end Go.Proofs.YtaifjndkgfffpaaDoor
/-
  To begin, to die, to fight: contracts.
-/
namespace Go.Proofs.YtaifjndkgfffpaaDoor
open Go.RowKit
set_option linter.unusedVariables false

set_option maxRecDepth 100000 in
set_option maxHeartbeats 2000000 in
theorem rbegin_any {w0 : World} {L : Ld} {Es : List Ev} {w : World} (hS : Sn 62 [] w0 L Es w) (b : Nat) (hb : b < 6) (hf : Fine (beginL L b)) (hv : Vb w0) (hlen : Es.length ≤ 800000) :
    Calls Tryd.prog 24 #[.pointer (some ⟨w0.heap.size, 0, none⟩), .int .i64 (b : Int)] w fun e w' => e = .returned (.tuple #[]) ∧ Sn 62 [] w0 (beginL L b) (Es ++ beginE (beginL L b) b) w' ∧ Stp w0.heap.size 165 w w' := by
  have hbi : (b : Int) < 6 := by omega
  have c3 := hS.being b 3 hb (by omega)
  have c4 := hS.being b 4 hb (by omega)
  have f3 := hS.soft (129 + b * 6 + 3)
  have f4 := hS.soft (129 + b * 6 + 4)
  simp only [Ld.beingCell] at c3 c4
  have S1 := hide ((hS.set (by omega) (L.up_room b hb 0)).set (by omega) ((L.setRoom b 0).up_health b hb 10))
  have T1 := hide ((hS.step (n := 129 + b * 6 + 3) (by omega) (.int .i64 0)).trans (Stp.put (o := 165) (n := 129 + b * 6 + 4) (x := .int .i64 10) (by omega)))
  clear hS
  go_enter Tryd.func24, Tryd.ntmps24
  go_wp2_with fail
  refine (revent_any (L := beginL L b) S1.out 17 b hb).mono ?_
  rintro e w1 ⟨rfl, hb1⟩
  have S2 := hide (S1.out.below hb1)
  have T2 := hide (T1.out.trans (S1.out.stp hb1 165))
  clear hb1 S1 T1 c3 c4 f3 f4
  go_wp2_with fail
  refine (happens_any (L := beginL L b) S2.out (evN (beginL L b) 17 b) (by omega)).mono ?_
  rintro e w2 ⟨rfl, S3h, T3h⟩
  have S3 := hide S3h
  have T3 := hide (T2.out.trans T3h)
  clear S3h T3h S2 T2
  go_wp2_with fail
  refine (rlook_any S3.out hf hv b hb (by simp only [List.length_append, List.length_cons, List.length_nil]; omega)).mono ?_
  rintro e w3 ⟨rfl, S4h, T4h⟩
  have S4 := hide S4h
  have T4 := hide (T3.out.trans T4h)
  clear S4h T4h S3 T3
  go_wp2
  go_end0
  exact ⟨rfl, by simpa only [beginE, List.append_assoc, List.cons_append, List.nil_append] using S4.out, T4.out⟩

set_option maxRecDepth 100000 in
set_option maxHeartbeats 2000000 in
theorem rdie_any {w0 : World} {L : Ld} {Es : List Ev} {w : World} (hS : Sn 62 [] w0 L Es w) (b : Nat) (hb : b < 6) (hf : Fine (L.setHealth b 1)) (hf2 : Fine (beginL (letGoL (L.setHealth b 1) b) b)) (hv : Vb w0) (hlen : Es.length ≤ 700000) :
    Calls Tryd.prog 56 #[.pointer (some ⟨w0.heap.size, 0, none⟩), .int .i64 (b : Int)] w fun e w' => e = .returned (.tuple #[]) ∧ Sn 62 [] w0 (dieL L b) (Es ++ dieE L b) w' ∧ Stp w0.heap.size 165 w w' := by
  have hbi : (b : Int) < 6 := by omega
  have c4 := hS.being b 4 hb (by omega)
  have f4 := hS.soft (129 + b * 6 + 4)
  simp only [Ld.beingCell] at c4
  have S1 := hide (hS.set (by omega) (L.up_health b hb 1))
  have T1 := hide (hS.step (n := 129 + b * 6 + 4) (by omega) (.int .i64 1))
  clear hS
  go_enter Tryd.func56, Tryd.ntmps56
  go_wp2_with fail
  refine (revent_any S1.out 15 b hb).mono ?_
  rintro e w1 ⟨rfl, hb1⟩
  have S2 := hide (S1.out.below hb1)
  have T2 := hide (T1.out.trans (S1.out.stp hb1 165))
  clear hb1 S1 T1 c4 f4
  go_wp2_with fail
  refine (happens_any S2.out (evN (L.setHealth b 1) 15 b) (by omega)).mono ?_
  rintro e w2 ⟨rfl, S3h, T3h⟩
  have S3 := hide S3h
  have T3 := hide (T2.out.trans T3h)
  clear S3h T3h S2 T2
  go_wp2_with fail
  refine (letGo_any S3.out hf b hb).mono ?_
  rintro e w3 ⟨rfl, S4h, T4h⟩
  have S4 := hide S4h
  have T4 := hide (T3.out.trans T4h)
  clear S4h T4h S3 T3
  by_cases h2 : b < 2
  · have h2i : decide ((b : Int) < 2) = true := by simp; omega
    have HL := hide (show dieL L b = zeroB (letGoL (L.setHealth b 1) b) b by unfold dieL; rw [if_pos h2])
    have HE := hide (show dieE L b = [allE (L.setHealth b 1) (evN (L.setHealth b 1) 15 b)] by unfold dieE; rw [if_pos h2])
    have hw := S4.out.whole b hb ⟨#[]⟩ false false 0 0 0
    have X := hide hw.1
    have Y := hide (T4.out.trans hw.2)
    clear hw h2
    go_wp2_with (refine wl_whole (.tmp 26) (.tmp 25) rfl rfl b hb ⟨#[]⟩ false false 0 0 0 rfl rfl S4.out ?_)
    exact bodyPost_ret (v := .tuple #[]) (results_none rfl _ _ _) rfl ⟨rfl, by rw [HL.out, HE.out]; exact X.out, Y.out⟩
  · have h2i : decide ((b : Int) < 2) = false := by simp; omega
    have HL := hide (show dieL L b = beginL (letGoL (L.setHealth b 1) b) b by unfold dieL; rw [if_neg h2])
    have HE := hide (show dieE L b = allE (L.setHealth b 1) (evN (L.setHealth b 1) 15 b) :: beginE (beginL (letGoL (L.setHealth b 1) b) b) b by unfold dieE; rw [if_neg h2])
    clear h2
    go_wp2_with fail
    refine (rbegin_any S4.out b hb hf2 hv (by simp only [List.length_append, List.length_cons, List.length_nil]; omega)).mono ?_
    rintro e w4 ⟨rfl, S5h, T5h⟩
    have S5 := hide S5h
    have T5 := hide (T4.out.trans T5h)
    clear S5h T5h S4 T4
    go_wp2
    go_end0
    exact ⟨rfl, by rw [HL.out, HE.out]; simpa only [List.append_assoc, List.cons_append, List.nil_append] using S5.out, T5.out⟩
end Go.Proofs.YtaifjndkgfffpaaDoor
