/-
  A being goes: contracts.
-/
import Derived.Test.YtaifjndkgfffpaaDoorRuLook3
import Derived.Test.YtaifjndkgfffpaaDoorRuRd
namespace Go.Proofs.YtaifjndkgfffpaaDoor
open Go.RowKit
set_option linter.unusedVariables false

/-- It leaves, or comes, by a direction. -/
def wayE (L : Ld) (kind : Int) (b : Nat) (d : Int) : Ev := allE L { evN L kind b with dir := d }
def oppN (d : Nat) : Nat := (d + 3) % 6

set_option maxRecDepth 100000 in
set_option maxHeartbeats 1000000 in
theorem toward_any {w0 : World} {L : Ld} {Es : List Ev} {w : World} (hS : Sn 62 [] w0 L Es w) (kind : Int) (b : Nat) (hb : b < 6) (d : Int) (hlen : Es.length ≤ 1000000) :
    Calls Tryd.prog 93 #[.pointer (some ⟨w0.heap.size, 0, none⟩), .int .i64 kind, .int .i64 (b : Int), .int .i64 d] w fun e w' => e = .returned (.tuple #[]) ∧ Sn 62 [] w0 L (Es ++ [wayE L kind b d]) w' ∧ Stp w0.heap.size 165 w w' := by
  go_enter Tryd.func93, Tryd.ntmps93
  go_wp2_with fail
  refine (revent_lit hS kind b hb).mono ?_
  rintro e w1 ⟨rfl, hb1⟩
  have S1 := hide (hS.below hb1)
  have T1 := hide (hS.stp hb1 165)
  clear hS hb1
  go_wp2_with (first | (refine wl_new 52 (.tmp 8) (.tmp 12) rfl rfl _ _ rfl rfl rfl Tryd.sizeEvent rfl (by simp [Value.oneCell']) ?_) | (refine wl_event (.tmp 8) rfl rfl _ { evN L kind b with dir := d } rfl (heap_alloc_new w1 _) ?_))
  refine (happens_any (S1.out.alloc _) { evN L kind b with dir := d } hlen).mono ?_
  rintro e w2 ⟨rfl, S2, T2⟩
  have A := hide S2
  have B := hide (T1.out.trans ((S1.out.stp (below_box w1 _) 165).trans T2))
  clear S2 T2 S1 T1
  go_wp2
  go_end0
  exact ⟨rfl, A.out, B.out⟩

set_option maxRecDepth 100000 in
set_option maxHeartbeats 400000 in
theorem opposite_0 (w : World) : Calls Tryd.prog 90 #[.int .i64 0] w fun e w' => e = .returned (.int .i64 3) ∧ w' = w := by
  have hix : ∀ w, (Instr.index 22 (.agg #[.int .i64 3, .int .i64 4, .int .i64 5, .int .i64 0, .int .i64 1, .int .i64 2]) (.int .i64 0)).run Tryd.prog w = .ok (.int .i64 3) w := fun _ => by kernel_rfl
  have hm1 : max (0 : Int) 0 = 0 := by decide
  have hm2 : min (0 : Int) 5 = 0 := by decide
  go_enter Tryd.func90, Tryd.ntmps90
  go_wp2
  go_ret
  exact ⟨rfl, rfl⟩
set_option maxHeartbeats 400000 in
theorem opposite_1 (w : World) : Calls Tryd.prog 90 #[.int .i64 1] w fun e w' => e = .returned (.int .i64 4) ∧ w' = w := by
  have hix : ∀ w, (Instr.index 22 (.agg #[.int .i64 3, .int .i64 4, .int .i64 5, .int .i64 0, .int .i64 1, .int .i64 2]) (.int .i64 1)).run Tryd.prog w = .ok (.int .i64 4) w := fun _ => by kernel_rfl
  have hmm : min (max (1 : Int) 0) 5 = 1 := by decide
  go_enter Tryd.func90, Tryd.ntmps90
  go_wp2
  go_ret
  exact ⟨rfl, rfl⟩
set_option maxHeartbeats 400000 in
theorem opposite_2 (w : World) : Calls Tryd.prog 90 #[.int .i64 2] w fun e w' => e = .returned (.int .i64 5) ∧ w' = w := by
  have hix : ∀ w, (Instr.index 22 (.agg #[.int .i64 3, .int .i64 4, .int .i64 5, .int .i64 0, .int .i64 1, .int .i64 2]) (.int .i64 2)).run Tryd.prog w = .ok (.int .i64 5) w := fun _ => by kernel_rfl
  have hmm : min (max (2 : Int) 0) 5 = 2 := by decide
  go_enter Tryd.func90, Tryd.ntmps90
  go_wp2
  go_ret
  exact ⟨rfl, rfl⟩
set_option maxHeartbeats 400000 in
theorem opposite_3 (w : World) : Calls Tryd.prog 90 #[.int .i64 3] w fun e w' => e = .returned (.int .i64 0) ∧ w' = w := by
  have hix : ∀ w, (Instr.index 22 (.agg #[.int .i64 3, .int .i64 4, .int .i64 5, .int .i64 0, .int .i64 1, .int .i64 2]) (.int .i64 3)).run Tryd.prog w = .ok (.int .i64 0) w := fun _ => by kernel_rfl
  have hmm : min (max (3 : Int) 0) 5 = 3 := by decide
  go_enter Tryd.func90, Tryd.ntmps90
  go_wp2
  go_ret
  exact ⟨rfl, rfl⟩
set_option maxHeartbeats 400000 in
theorem opposite_4 (w : World) : Calls Tryd.prog 90 #[.int .i64 4] w fun e w' => e = .returned (.int .i64 1) ∧ w' = w := by
  have hix : ∀ w, (Instr.index 22 (.agg #[.int .i64 3, .int .i64 4, .int .i64 5, .int .i64 0, .int .i64 1, .int .i64 2]) (.int .i64 4)).run Tryd.prog w = .ok (.int .i64 1) w := fun _ => by kernel_rfl
  have hmm : min (max (4 : Int) 0) 5 = 4 := by decide
  go_enter Tryd.func90, Tryd.ntmps90
  go_wp2
  go_ret
  exact ⟨rfl, rfl⟩
set_option maxHeartbeats 400000 in
theorem opposite_5 (w : World) : Calls Tryd.prog 90 #[.int .i64 5] w fun e w' => e = .returned (.int .i64 2) ∧ w' = w := by
  have hix : ∀ w, (Instr.index 22 (.agg #[.int .i64 3, .int .i64 4, .int .i64 5, .int .i64 0, .int .i64 1, .int .i64 2]) (.int .i64 5)).run Tryd.prog w = .ok (.int .i64 2) w := fun _ => by kernel_rfl
  have hmm : min (max (5 : Int) 0) 5 = 5 := by decide
  go_enter Tryd.func90, Tryd.ntmps90
  go_wp2
  go_ret
  exact ⟨rfl, rfl⟩
theorem opposite_any (d : Nat) (hd : d < 6) (w : World) : Calls Tryd.prog 90 #[.int .i64 (d : Int)] w fun e w' => e = .returned (.int .i64 (oppN d : Int)) ∧ w' = w := by
  match d, hd with
  | 0, _ => exact opposite_0 w
  | 1, _ => exact opposite_1 w
  | 2, _ => exact opposite_2 w
  | 3, _ => exact opposite_3 w
  | 4, _ => exact opposite_4 w
  | 5, _ => exact opposite_5 w

def goneL (L : Ld) (b : Nat) (r : Int) : Ld := (L.setRoom b r).setFoe b 0
def exitL (L : Ld) (b d : Nat) : Int := L.exit (L.room b).toNat d
def shutL (L : Ld) (b d : Nat) : Bool := L.shut (L.room b).toNat d
/-- The land behind a being's going, and what happens. -/
def walkL (L : Ld) (b d : Nat) : Ld := if exitL L b d = 0 then L else if shutL L b d = true then L else goneL L b (exitL L b d - 1)
def walkE (L : Ld) (b d : Nat) : List Ev :=
  if exitL L b d = 0 then [tellE L b noWayS] else if shutL L b d = true then [tellE L b shutS]
  else [wayE L 1 b d, wayE (walkL L b d) 2 b (oppN d : Int)] ++ lookE (walkL L b d) b

theorem gone_good {L : Ld} (hg : goodL L = true) (b : Nat) {r : Int} (hr : amg r 6 = true) : goodL (goneL L b r) = true := good_foe (good_room' hg b hr) b (.inl rfl)

set_option maxRecDepth 100000 in
set_option maxHeartbeats 2000000 in
theorem rwalk_any {w0 : World} {L : Ld} {Es : List Ev} {w : World} (hS : Sn 62 [] w0 L Es w) (hf : Fine L) (hg : goodL L = true) (hv : Vb w0) (b d : Nat) (hb : b < 6) (hd : d < 6) (hlen : Es.length ≤ 800000) :
    Calls Tryd.prog 70 #[.pointer (some ⟨w0.heap.size, 0, none⟩), .int .i64 (b : Int), .int .i64 (d : Int)] w fun e w' => e = .returned (.tuple #[]) ∧ Sn 62 [] w0 (walkL L b d) (Es ++ walkE L b d) w' ∧ Stp w0.heap.size 165 w w' := by
  obtain ⟨r, hr, er⟩ := hf.room b hb
  have eE : exitL L b d = L.exit r d := by unfold exitL; rw [er]; rfl
  have eS : shutL L b d = L.shut r d := by unfold shutL; rw [er]; rfl
  have HS := hide hS
  have c3 := hS.being b 3 hb (by omega)
  have cE := hS.room r (2 + d) hr (by omega)
  have cS := hS.room r (8 + d) hr (by omega)
  rw [show r * 14 + (2 + d) = r * 14 + 2 + d by omega] at cE
  rw [show r * 14 + (8 + d) = r * 14 + 8 + d by omega] at cS
  have e1 : L.roomCell r (2 + d) = .int .i64 (L.exit r d) := by rw [Nat.add_comm]; simp [Ld.roomCell, hd]
  have e2 : L.roomCell r (8 + d) = .bool (L.shut r d) := by rw [show 8 + d = (d + 6) + 2 by omega]; simp [Ld.roomCell]
  rw [e1] at cE
  rw [e2] at cS
  simp only [Ld.beingCell] at c3
  rw [er] at c3
  have HF := hide hf
  have HV := hide hv
  have HG := hide hg
  have hl := hS.lt
  have hbi : (b : Int) < 6 := by omega
  have hri : (r : Int) < 6 := by omega
  have hdi : (d : Int) < 6 := by omega
  clear hS hf hv hg er e2
  by_cases h0 : L.exit r d = 0
  · have HE := hide (show walkE L b d = [tellE L b noWayS] by unfold walkE; rw [eE, if_pos h0])
    have HL := hide (show walkL L b d = L by unfold walkL; rw [eE, if_pos h0])
    have hb0 : (L.exit r d == 0) = true := by simp [h0]
    clear h0 eE eS e1
    go_enter Tryd.func70, Tryd.ntmps70
    go_wp2_with fail
    go_region
    go_wp2_with fail
    refine (rtell_any HS.out.drew b hb _ (by omega)).mono ?_
    rintro e w2 ⟨rfl, S2, T2⟩
    have A := hide S2
    have B := hide ((HS.out.stp (below_drewN (Below.refl _ _) 1) 165).trans T2)
    clear S2 T2
    go_wp2
    go_end0
    exact ⟨rfl, by rw [HE.out, HL.out]; exact A.out, B.out⟩
  · have hb0 : (L.exit r d == 0) = false := by simp [h0]
    by_cases h1 : L.shut r d = true
    · have HE := hide (show walkE L b d = [tellE L b shutS] by unfold walkE; rw [eE, if_neg h0, eS, if_pos h1])
      have HL := hide (show walkL L b d = L by unfold walkL; rw [eE, if_neg h0, eS, if_pos h1])
      rw [h1] at cS
      clear h0 h1 eE eS e1
      go_enter Tryd.func70, Tryd.ntmps70
      go_wp2_with fail
      go_region
      go_wp2_with fail
      refine (rtell_any HS.out.drew b hb _ (by omega)).mono ?_
      rintro e w2 ⟨rfl, S2, T2⟩
      have A := hide S2
      have B := hide ((HS.out.stp (below_drewN (Below.refl _ _) 1) 165).trans T2)
      clear S2 T2
      go_wp2
      go_end0
      exact ⟨rfl, by rw [HE.out, HL.out]; exact A.out, B.out⟩
    · have h1' : L.shut r d = false := by simpa using h1
      obtain ⟨t, ht, et⟩ : ∃ t : Nat, t < 6 ∧ L.exit r d = (t : Int) + 1 := by
        rcases HF.out.exit r d hr hd with h | h
        · exact absurd h h0
        · exact h
      have HL0 : walkL L b d = goneL L b (t : Int) := by unfold walkL; rw [eE, if_neg h0, eS, if_neg h1, et]; congr 1; omega
      have HL := hide HL0
      have HE := hide (show walkE L b d = [wayE L 1 b d, wayE (goneL L b (t : Int)) 2 b (oppN d : Int)] ++ lookE (goneL L b (t : Int)) b by
        unfold walkE; rw [eE, if_neg h0, eS, if_neg h1, HL0])
      have hG := hide (gone_good HG.out b (r := (t : Int)) (amg_mk (by omega) (by omega)))
      have hF := hide (((al_room L b (t : Int)).trans (al_foe _ b 0)).fine HF.out hG.out)
      rw [h1'] at cS
      rw [et] at cE
      rw [et] at hb0
      have hw : wrap64 ((t : Int) + 1 - 1) = (t : Int) := by rw [show (t : Int) + 1 - 1 = (t : Int) by omega]; simp only [wrap64]; omega
      clear h0 h1 h1' eE eS HL0
      go_enter Tryd.func70, Tryd.ntmps70
      go_wp2_with fail
      go_region
      go_wp2_with fail
      refine (toward_any HS.out.drew 1 b hb (d : Int) (by omega)).mono ?_
      rintro e w2 ⟨rfl, S2h, T2h⟩
      have S2 := hide S2h
      have T2 := hide ((HS.out.stp (below_drewN (Below.refl _ _) 1) 165).trans T2h)
      have d3 := S2h.being b 3 hb (by omega)
      have d5 := S2h.being b 5 hb (by omega)
      have f3 := S2h.soft (129 + b * 6 + 3)
      have f5 := S2h.soft (129 + b * 6 + 5)
      have dE := S2h.room r (2 + d) hr (by omega)
      rw [show r * 14 + (2 + d) = r * 14 + 2 + d by omega] at dE
      have S3 := hide ((S2h.set (by omega) (L.up_room b hb (t : Int))).set (by omega) ((L.setRoom b (t : Int)).up_foe b hb 0))
      have T3 := hide ((T2.out.trans (S2h.step (n := 129 + b * 6 + 3) (by omega) (.int .i64 (t : Int)))).trans (Stp.put (o := 165) (n := 129 + b * 6 + 5) (x := .int .i64 0) (by omega)))
      clear S2h T2h c3 cE cS HS S2 T2
      rw [e1] at dE
      rw [et] at dE
      simp only [Ld.beingCell] at d3 d5
      clear et e1
      go_wp2_with fail
      refine (opposite_any d hd _).mono ?_
      rintro e w3 ⟨rfl, hw3⟩
      rw [hw3]
      clear hw3 w3
      go_wp2_with fail
      refine (toward_any (L := goneL L b (t : Int)) S3.out 2 b hb (oppN d : Int) (by simp only [List.length_append, List.length_cons, List.length_nil]; omega)).mono ?_
      rintro e w4 ⟨rfl, S4h, T4h⟩
      have S4 := hide S4h
      have T4 := hide (T3.out.trans T4h)
      clear S4h T4h S3 T3 d3 d5 dE f3 f5
      go_wp2_with fail
      refine (rlook_any S4.out hF.out HV.out b hb (by simp only [List.length_append, List.length_cons, List.length_nil]; omega)).mono ?_
      rintro e w5 ⟨rfl, S5h, T5h⟩
      have S5 := hide S5h
      have T5 := hide (T4.out.trans T5h)
      clear S5h T5h S4 T4
      go_wp2
      go_end0
      exact ⟨rfl, by rw [HL.out, HE.out]; simpa only [List.append_assoc, List.cons_append, List.nil_append] using S5.out, T5.out⟩
end Go.Proofs.YtaifjndkgfffpaaDoor
