/-
  Things are put into a box, and given to somebody: contracts.
-/
import Derived.Test.YtaifjndkgfffpaaDoorRuPart
namespace Go.Proofs.YtaifjndkgfffpaaDoor
open Go.RowKit
set_option linter.unusedVariables false

theorem Cev.putText {w : World} {b : Nat} {E : Ev} (h : Cev w b E) (x : ByteArray) : Cev (w.setCell ⟨b, 9, none⟩ (.string x)) b { E with text := x } := by
  unfold Cev at h ⊢
  rw [setCell_eq_setRow w b 9 _ _ _ _ h, setRow_heap w b _ _ _ _ h]; rfl
def stowE (L : Ld) (b i : Nat) : Ev := { evN L 5 b with text := L.tname i }
def putL (L : Ld) (b : Nat) (O : Od) : Ld := match (boxL L b O.second).1 with
  | none => L
  | some i => partL L b O 2 (i : Int) (stowE L b i)
def putE (L : Ld) (b : Nat) (O : Od) : List Ev := match (boxL L b O.second).1 with
  | none => [tellE L b (boxL L b O.second).2]
  | some i => partE L b O 2 (i : Int) (stowE L b i)
def giveL (L : Ld) (b : Nat) (O : Od) : Ld := match whoL L b O.second with
  | none => L
  | some c => partL L b O 1 (c : Int) (evW L 6 b c)
def giveE (L : Ld) (b : Nat) (O : Od) : List Ev := match whoL L b O.second with
  | none => [tellE L b nobodyS]
  | some c => partE L b O 1 (c : Int) (evW L 6 b c)

set_option maxRecDepth 100000 in
set_option maxHeartbeats 2000000 in
theorem rput_any {w0 : World} {L : Ld} {Es : List Ev} {w : World} (hS : Sn 62 [] w0 L Es w) (b : Nat) (hb : b < 6) (O : Od) (hs : O.second.size ≤ 140737488355328) (hn0 : -9223372036854775808 ≤ O.nth) (hn1 : O.nth ≤ 9223372036854775807) (hlen : Es.length ≤ 900000) :
    Calls Tryd.prog 59 #[.pointer (some ⟨w0.heap.size, 0, none⟩), .int .i64 (b : Int), .agg O.cells] w fun e w' => e = .returned (.tuple #[]) ∧ Sn 62 [] w0 (putL L b O) (Es ++ putE L b O) w' ∧ Stp w0.heap.size 165 w w' := by
  have hl := hS.lt
  have X0 := hide (hS.alloc (.cells O.cells 47))
  have T0 := hide (Stp.below (o := 165) (below_box w (.cells O.cells 47)) hS.lt)
  have K0 := hide (hS.kept (below_box w (.cells O.cells 47)) (Nat.le_refl _) (by simp))
  have G0 := heap_alloc_new w (.cells O.cells 47)
  have o4 : (w.alloc (.cells O.cells 47)).cell? ⟨w.heap.size, 4, none⟩ = some (.string O.second) := by rw [cell_of_row _ _ _ _ _ _ G0]; rfl
  have HG := hide G0
  clear hS G0
  go_enter Tryd.func59, Tryd.ntmps59
  go_wp2_with fail
  generalize w.alloc (.cells O.cells 47) = wa at *
  refine (rbox_any X0.out b hb O.second hs (by omega)).mono ?_
  rintro e w1 h
  clear o4
  rcases h with ⟨i, hi, rfl, S1h, T1h⟩ | ⟨hi, rfl, S1h, T1h⟩
  · have HL := hide (show putL L b O = partL L b O 2 (i : Int) (stowE L b i) by unfold putL; rw [hi])
    have HE := hide (show putE L b O = partE L b O 2 (i : Int) (stowE L b i) by unfold putE; rw [hi])
    obtain ⟨h9, -, -, -⟩ := box_lt hi
    have hii : (i : Int) < 9 := by omega
    have S1 := hide S1h
    have K1 := hide (T1h.kept K0.out).1
    have G1 := hide ((T1h.kept K0.out).2.trans HG.out)
    have T1 := hide (T0.out.trans T1h)
    clear S1h T1h hi X0 T0 K0 HG
    go_wp2_with fail
    refine (revent_lit S1.out 5 b hb).mono ?_
    rintro e w2 ⟨rfl, hb2⟩
    have P2 := hide (S1.out.stp hb2 165)
    have S2 := hide (S1.out.below hb2)
    have B2 := hide hb2
    have hl2 := S2.out.lt
    have c0 := S2.out.thing i 0 h9 (by omega)
    simp only [Nat.add_zero, Ld.thingCell] at c0
    have hkk : w.heap.size < w2.heap.size := by
      have h1 := (Array.getElem?_eq_some_iff.1 G1.out).1
      have h2 := hb2.size
      omega
    clear hb2
    have hbb := below_box w2 (.cells (stowE L b i).cells 52)
    have S3 := hide (S2.out.below hbb)
    have P3 := hide (P2.out.trans (S2.out.stp hbb 165))
    have G3 : Hid ((w2.alloc (.cells (stowE L b i).cells 52)).heap[w.heap.size]? = some (.cells O.cells 47 (0, 0))) := (P3.out.kept K1.out).2.trans G1.out
    have C3 : Hid (Cev (w2.alloc (.cells (stowE L b i).cells 52)) w2.heap.size (stowE L b i)) := cev_new w2 (stowE L b i)
    have T3 := hide (T1.out.trans P3.out)
    clear hbb
    go_wp2_with (first | (refine wl_new 52 (.tmp 8) (.tmp 20) rfl rfl _ _ rfl rfl rfl Tryd.sizeEvent rfl (by simp [Value.oneCell']) ?_) | (refine wl_wanted rfl (wp_load_row 47 (.tmp 5) rfl w.heap.size rfl 47 O.cells (0, 0) _ G3.out Tryd.underlying47 rfl Tryd.sizeOrder ?_)) | (refine wl_event (.tmp 8) rfl rfl _ (stowE L b i) rfl C3.out ?_))
    refine (rpart_any S3.out b hb O hn0 hn1 2 (i : Int) (stowE L b i) hlen).mono ?_
    rintro e w4 ⟨rfl, S4h, T4h⟩
    have S4 := hide S4h
    have T4 := hide (T3.out.trans T4h)
    clear S4h T4h S3 T3 P3 G3 C3
    go_wp2
    go_end0
    exact ⟨rfl, by rw [HL.out, HE.out]; exact S4.out, T4.out⟩
  · have HL := hide (show putL L b O = L by unfold putL; rw [hi])
    have HE := hide (show putE L b O = [tellE L b (boxL L b O.second).2] by unfold putE; rw [hi])
    have S1 := hide S1h
    have T1 := hide (T0.out.trans T1h)
    clear S1h T1h hi
    go_wp2
    go_end0
    exact ⟨rfl, by rw [HL.out, HE.out]; exact S1.out, T1.out⟩

set_option maxRecDepth 100000 in
set_option maxHeartbeats 2000000 in
theorem rgive_any {w0 : World} {L : Ld} {Es : List Ev} {w : World} (hS : Sn 62 [] w0 L Es w) (b : Nat) (hb : b < 6) (O : Od) (hs : O.second.size ≤ 140737488355328) (hn0 : -9223372036854775808 ≤ O.nth) (hn1 : O.nth ≤ 9223372036854775807) (hlen : Es.length ≤ 900000) :
    Calls Tryd.prog 60 #[.pointer (some ⟨w0.heap.size, 0, none⟩), .int .i64 (b : Int), .agg O.cells] w fun e w' => e = .returned (.tuple #[]) ∧ Sn 62 [] w0 (giveL L b O) (Es ++ giveE L b O) w' ∧ Stp w0.heap.size 165 w w' := by
  have hl := hS.lt
  have X0 := hide (hS.alloc (.cells O.cells 47))
  have T0 := hide (Stp.below (o := 165) (below_box w (.cells O.cells 47)) hS.lt)
  have K0 := hide (hS.kept (below_box w (.cells O.cells 47)) (Nat.le_refl _) (by simp))
  have G0 := heap_alloc_new w (.cells O.cells 47)
  have o4 : (w.alloc (.cells O.cells 47)).cell? ⟨w.heap.size, 4, none⟩ = some (.string O.second) := by rw [cell_of_row _ _ _ _ _ _ G0]; rfl
  have HG := hide G0
  clear hS G0
  go_enter Tryd.func60, Tryd.ntmps60
  go_wp2_with fail
  generalize w.alloc (.cells O.cells 47) = wa at *
  refine (somebody_any X0.out b hb O.second hs (by omega)).mono ?_
  rintro e w1 h
  clear o4
  rcases h with ⟨c, hc, rfl, S1h, T1h⟩ | ⟨hc, rfl, S1h, T1h⟩
  · have HL := hide (show giveL L b O = partL L b O 1 (c : Int) (evW L 6 b c) by unfold giveL; rw [hc])
    have HE := hide (show giveE L b O = partE L b O 1 (c : Int) (evW L 6 b c) by unfold giveE; rw [hc])
    obtain ⟨h6, -⟩ := who_sees hc
    have S1 := hide S1h.drew
    have K1 : Hid (Kept w0.heap.size 165 w1.drew w.heap.size) := ((T1h.trans (S1h.stp (below_drewN (Below.refl _ _) 1) 165)).kept K0.out).1
    have G1 : Hid (w1.drew.heap[w.heap.size]? = some (.cells O.cells 47 (0, 0))) := ((T1h.trans (S1h.stp (below_drewN (Below.refl _ _) 1) 165)).kept K0.out).2.trans HG.out
    have T1 : Hid (Stp w0.heap.size 165 w w1.drew) := T0.out.trans (T1h.trans (S1h.stp (below_drewN (Below.refl _ _) 1) 165))
    clear S1h T1h hc X0 T0 K0 HG
    go_wp2_with fail
    refine wp_region_held (S := fun W => W.heap[w.heap.size]? = some (.cells O.cells 47 (0, 0))) (by kernel_rfl) ?_
    change wpAnyH _ _ _ _ _ _ _ _ w1.drew
    generalize w1.drew = W0 at S1 K1 G1 T1 ⊢
    refine take_at (i := 0) (d := some 17) (fuel := 8) (v := ?_) rfl rfl (by kernel_rfl) (by kernel_rfl) (by kernel_rfl) (fun _ _ _ h => h) (Or.inl ⟨by rfl, ?_⟩) G1.out ?_
    rotate_left
    · intro W hW
      go_simp
      try with_reducible rfl
    simp only [Act.put, List.setIfInBounds_toArray, List.set]
    refine take_at (i := 1) (d := some 18) (fuel := 7) (v := ?_) rfl rfl (by kernel_rfl) (by kernel_rfl) (by kernel_rfl) (fun _ _ _ h => h) (Or.inl ⟨by rfl, ?_⟩) G1.out ?_
    rotate_left
    · intro W hW
      go_simp
      try with_reducible rfl
    simp only [Act.put, List.setIfInBounds_toArray, List.set]
    refine take_at (i := 3) (d := some 20) (fuel := 6) (v := ?_) rfl rfl (by kernel_rfl) (by kernel_rfl) (by kernel_rfl) (fun _ _ _ h => h) (Or.inl ⟨by rfl, ?_⟩) G1.out ?_
    rotate_left
    · intro W hW
      go_simp
      try with_reducible rfl
    simp only [Act.put, List.setIfInBounds_toArray, List.set]
    refine take_at (i := 4) (d := some 21) (fuel := 5) (v := ?_) rfl rfl (by kernel_rfl) (by kernel_rfl) (by kernel_rfl) (fun _ _ _ h => h) (Or.inl ⟨by rfl, ?_⟩) G1.out ?_
    rotate_left
    · intro W hW
      go_simp
      try with_reducible rfl
    simp only [Act.put, List.setIfInBounds_toArray, List.set]
    refine take_at (i := 5) (d := some 22) (fuel := 4) (v := ?_) rfl rfl (by kernel_rfl) (by kernel_rfl) (by kernel_rfl) (fun _ _ _ h => h) (Or.inl ⟨by rfl, ?_⟩) G1.out ?_
    rotate_left
    · intro W hW
      go_simp
      try with_reducible rfl
    simp only [Act.put, List.setIfInBounds_toArray, List.set]
    refine take_at (i := 6) (d := some 23) (fuel := 3) (v := ?_) rfl rfl (by kernel_rfl) (by kernel_rfl) (by kernel_rfl) (fun _ _ _ h => h) (Or.inl ⟨by rfl, ?_⟩) G1.out ?_
    rotate_left
    · intro W hW
      go_simp
      try with_reducible rfl
    simp only [Act.put, List.setIfInBounds_toArray, List.set]
    refine take_at (i := 2) (d := some 19) (fuel := 2) (v := .agg O.cells) rfl rfl (by kernel_rfl) (by kernel_rfl) (by kernel_rfl) (fun _ _ _ h => h) (Or.inl ⟨by rfl, fun W hW => exec_order (.tmp 5) rfl _ rfl hW⟩) G1.out ?_
    simp only [Act.put, List.setIfInBounds_toArray, List.set]
    refine wpAnyH_all (fuel := 1) (rs := [7]) (by kernel_rfl) (by simp) ?_
    intro i hi
    obtain rfl : i = 7 := by simpa using hi
    clear hi
    refine call_at (d := some 24) rfl rfl (by rfl) 55 #[.pointer (some ⟨w0.heap.size, 0, none⟩), .int .i64 6, .int .i64 (b : Int), .int .i64 (c : Int)] (by kernel_rfl) ?_
    refine (rwith_any S1.out 6 b c hb h6).mono ?_
    rintro e w2 ⟨rfl, hb2⟩
    have S2 := hide (S1.out.below hb2)
    have T2 := hide (T1.out.trans (S1.out.stp hb2 165))
    have G2 := hide (((S1.out.stp hb2 165).kept K1.out).2.trans G1.out)
    have K2 := hide ((S1.out.stp hb2 165).kept K1.out).1
    clear hb2 S1 T1 K1 G1
    refine ⟨_, rfl, G2.out, ?_⟩
    simp only [Act.put, List.setIfInBounds_toArray, List.set]
    refine wpAnyH_all (fuel := 0) (rs := [8]) (by kernel_rfl) (by simp) ?_
    intro i hi
    obtain rfl : i = 8 := by simpa using hi
    clear hi
    refine call_at (d := some 25) rfl rfl (by rfl) 58 #[.pointer (some ⟨w0.heap.size, 0, none⟩), .int .i64 (b : Int), .agg O.cells, .int .i64 1, .int .i64 (c : Int), .agg (evW L 6 b c).cells] (by kernel_rfl) ?_
    refine (rpart_any S2.out b hb O hn0 hn1 1 (c : Int) (evW L 6 b c) hlen).mono ?_
    rintro e w4 ⟨rfl, S4h, T4h⟩
    have S4 := hide S4h
    have T4 := hide (T2.out.trans T4h)
    have G4 := hide ((T4h.kept K2.out).2.trans G2.out)
    clear S4h T4h S2 T2 G2
    refine ⟨_, rfl, G4.out, ?_⟩
    simp only [Act.put, List.setIfInBounds_toArray, List.set]
    refine wpAnyH_done (by kernel_rfl) ?_ _
    go_wp2
    go_end0
    exact ⟨rfl, by rw [HL.out, HE.out]; exact S4.out, T4.out⟩
  · have HL := hide (show giveL L b O = L by unfold giveL; rw [hc])
    have HE := hide (show giveE L b O = [tellE L b nobodyS] by unfold giveE; rw [hc])
    have S1 := hide S1h
    have T1 := hide (T0.out.trans T1h)
    clear S1h T1h hc
    go_wp2
    go_end0
    exact ⟨rfl, by rw [HL.out, HE.out]; exact S1.out, T1.out⟩
end Go.Proofs.YtaifjndkgfffpaaDoor
