/-
  To begin, to die, to fight: contracts.
-/
import Derived.Test.YtaifjndkgfffpaaDoorMgL
namespace Go.Proofs.YtaifjndkgfffpaaDoor
open Go.RowKit
set_option linter.unusedVariables false

set_option maxRecDepth 100000 in
set_option maxHeartbeats 2000000 in
theorem rbegin_any {w0 : World} {L : Ld} {Es : List Ev} {w : World} (hS : Sn 62 [] w0 L Es w) (b : Nat) (hb : b < 6) (hf : Fine (beginL L b)) (hv : Vb w0) (hlen : Es.length ≤ 800000) :
    Calls Tryd.prog 24 #[.pointer (some ⟨w0.heap.size, 0, none⟩), .int .i64 (b : Int)] w fun e w' => e = .returned (.tuple #[]) ∧ Sn 62 [] w0 (beginL L b) (Es ++ beginE (beginL L b) b) w' ∧ Stp w0.heap.size 165 w w' := by
  have hbi : (b : Int) < 6 := by omega
  have c3 := hS.being b 3 hb (by omega)
  have c4 := hS.being b 4 hb (by omega)
  have f3 := hS.soft (129 + b * 6 + 3)
  have f4 := hS.soft (129 + b * 6 + 4)
  simp only [Ld.beingCell] at c3 c4
  have S1 := hide ((hS.set (by omega) (L.up_room b hb 0)).set (by omega) ((L.setRoom b 0).up_health b hb 10))
  have T1 := hide ((hS.step (n := 129 + b * 6 + 3) (by omega) (.int .i64 0)).trans (Stp.put (o := 165) (n := 129 + b * 6 + 4) (x := .int .i64 10) (by omega)))
  clear hS
  go_enter Tryd.func24, Tryd.ntmps24
  go_wp2_with fail
  refine (revent_any (L := beginL L b) S1.out 17 b hb).mono ?_
  rintro e w1 ⟨rfl, hb1⟩
  have S2 := hide (S1.out.below hb1)
  have T2 := hide (T1.out.trans (S1.out.stp hb1 165))
  clear hb1 S1 T1 c3 c4 f3 f4
  go_wp2_with fail
  refine (happens_any (L := beginL L b) S2.out (evN (beginL L b) 17 b) (by omega)).mono ?_
  rintro e w2 ⟨rfl, S3h, T3h⟩
  have S3 := hide S3h
  have T3 := hide (T2.out.trans T3h)
  clear S3h T3h S2 T2
  go_wp2_with fail
  refine (rlook_any S3.out hf hv b hb (by simp only [List.length_append, List.length_cons, List.length_nil]; omega)).mono ?_
  rintro e w3 ⟨rfl, S4h, T4h⟩
  have S4 := hide S4h
  have T4 := hide (T3.out.trans T4h)
  clear S4h T4h S3 T3
  go_wp2
  go_end0
  exact ⟨rfl, by simpa only [beginE, List.append_assoc, List.cons_append, List.nil_append] using S4.out, T4.out⟩

set_option maxRecDepth 100000 in
set_option maxHeartbeats 2000000 in
theorem rdie_any {w0 : World} {L : Ld} {Es : List Ev} {w : World} (hS : Sn 62 [] w0 L Es w) (b : Nat) (hb : b < 6) (hf : Fine (L.setHealth b 1)) (hf2 : Fine (beginL (letGoL (L.setHealth b 1) b) b)) (hv : Vb w0) (hlen : Es.length ≤ 700000) :
    Calls Tryd.prog 56 #[.pointer (some ⟨w0.heap.size, 0, none⟩), .int .i64 (b : Int)] w fun e w' => e = .returned (.tuple #[]) ∧ Sn 62 [] w0 (dieL L b) (Es ++ dieE L b) w' ∧ Stp w0.heap.size 165 w w' := by
  have hbi : (b : Int) < 6 := by omega
  have c4 := hS.being b 4 hb (by omega)
  have f4 := hS.soft (129 + b * 6 + 4)
  simp only [Ld.beingCell] at c4
  have S1 := hide (hS.set (by omega) (L.up_health b hb 1))
  have T1 := hide (hS.step (n := 129 + b * 6 + 4) (by omega) (.int .i64 1))
  clear hS
  go_enter Tryd.func56, Tryd.ntmps56
  go_wp2_with fail
  refine (revent_any S1.out 15 b hb).mono ?_
  rintro e w1 ⟨rfl, hb1⟩
  have S2 := hide (S1.out.below hb1)
  have T2 := hide (T1.out.trans (S1.out.stp hb1 165))
  clear hb1 S1 T1 c4 f4
  go_wp2_with fail
  refine (happens_any S2.out (evN (L.setHealth b 1) 15 b) (by omega)).mono ?_
  rintro e w2 ⟨rfl, S3h, T3h⟩
  have S3 := hide S3h
  have T3 := hide (T2.out.trans T3h)
  clear S3h T3h S2 T2
  go_wp2_with fail
  refine (letGo_any S3.out hf b hb).mono ?_
  rintro e w3 ⟨rfl, S4h, T4h⟩
  have S4 := hide S4h
  have T4 := hide (T3.out.trans T4h)
  clear S4h T4h S3 T3
  by_cases h2 : b < 2
  · have h2i : decide ((b : Int) < 2) = true := by simp; omega
    have HL := hide (show dieL L b = zeroB (letGoL (L.setHealth b 1) b) b by unfold dieL; rw [if_pos h2])
    have HE := hide (show dieE L b = [allE (L.setHealth b 1) (evN (L.setHealth b 1) 15 b)] by unfold dieE; rw [if_pos h2])
    have hw := S4.out.whole b hb ⟨#[]⟩ false false 0 0 0
    have X := hide hw.1
    have Y := hide (T4.out.trans hw.2)
    clear hw h2
    go_wp2_with (refine wl_whole (.tmp 26) (.tmp 25) rfl rfl b hb ⟨#[]⟩ false false 0 0 0 rfl rfl S4.out ?_)
    exact bodyPost_ret (v := .tuple #[]) (results_none rfl _ _ _) rfl ⟨rfl, by rw [HL.out, HE.out]; exact X.out, Y.out⟩
  · have h2i : decide ((b : Int) < 2) = false := by simp; omega
    have HL := hide (show dieL L b = beginL (letGoL (L.setHealth b 1) b) b by unfold dieL; rw [if_neg h2])
    have HE := hide (show dieE L b = allE (L.setHealth b 1) (evN (L.setHealth b 1) 15 b) :: beginE (beginL (letGoL (L.setHealth b 1) b) b) b by unfold dieE; rw [if_neg h2])
    clear h2
    go_wp2_with fail
    refine (rbegin_any S4.out b hb hf2 hv (by simp only [List.length_append, List.length_cons, List.length_nil]; omega)).mono ?_
    rintro e w4 ⟨rfl, S5h, T5h⟩
    have S5 := hide S5h
    have T5 := hide (T4.out.trans T5h)
    clear S5h T5h S4 T4
    go_wp2
    go_end0
    exact ⟨rfl, by rw [HL.out, HE.out]; simpa only [List.append_assoc, List.cons_append, List.nil_append] using S5.out, T5.out⟩
end Go.Proofs.YtaifjndkgfffpaaDoor
/-
  To fight: the contract.
-/
namespace Go.Proofs.YtaifjndkgfffpaaDoor
open Go.RowKit
set_option linter.unusedVariables false

theorem rwith_lit {w0 : World} {L : Ld} {Es : List Ev} {w : World} (hS : Sn 62 [] w0 L Es w) (kind : Int) (b c : Nat) (hb : b < 6) (hc : c < 6) :
    Calls Tryd.prog 55 #[.pointer (some ⟨w0.heap.size, 0, none⟩), .int .i64 kind, .int .i64 (b : Int), .int .i64 (c : Int)] w fun e w' => e = .returned (.agg #[.int .i64 kind, .int .i64 (L.room b), .int .i64 (b : Int), .int .i64 (c : Int), .int .i64 0, .int .i64 0, .string (L.bname b), .string (L.bname c), .string ⟨#[]⟩, .string ⟨#[]⟩, .int .i64 0, .int .i64 0, .int .i64 0, .int .i64 0, .int .i64 0, .int .i64 0]) ∧ Below w.heap.size w w' := rwith_any hS kind b c hb hc
theorem health_twice (L : Ld) (c : Nat) (x y : Int) : (L.setHealth c x).setHealth c y = L.setHealth c y := by
  unfold Ld.setHealth
  congr 1
  funext j
  by_cases e : j = c <;> simp [e]

set_option maxRecDepth 100000 in
set_option maxHeartbeats 2000000 in
theorem rfight_any {w0 : World} {L : Ld} {Es : List Ev} {w : World} (hS : Sn 62 [] w0 L Es w) (hf : Fine L) (hg : goodL L = true) (hv : Vb w0) (b : Nat) (hb : b < 6) (n : Int) (hn1 : 1 ≤ n) (hn3 : n ≤ 3) (h0 : L.foe b ≠ 0) (hlen : Es.length ≤ 600000) :
    Calls Tryd.prog 29 #[.pointer (some ⟨w0.heap.size, 0, none⟩), .int .i64 (b : Int), .int .i64 n] w fun e w' => e = .returned (.tuple #[]) ∧ Sn 62 [] w0 (fightL L b n) (Es ++ fightE L b n) w' ∧ Stp w0.heap.size 165 w w' := by
  obtain ⟨c, hc, ec⟩ : ∃ c : Nat, c < 6 ∧ L.foe b = (c : Int) + 1 := by
    rcases hf.foe b hb with h | h
    · exact absurd h h0
    · exact h
  have hfn : foeN L b = c := by unfold foeN; rw [ec]; omega
  have hbi : (b : Int) < 6 := by omega
  have hci : (c : Int) < 6 := by omega
  have c5 := hS.being b 5 hb (by omega)
  have c3 := hS.being b 3 hb (by omega)
  have d1 := hS.being c 1 hc (by omega)
  have d3 := hS.being c 3 hc (by omega)
  have f5 := hS.soft (129 + b * 6 + 5)
  simp only [Ld.beingCell] at c5 c3 d1 d3
  rw [ec] at c5
  have hw : wrap64 ((c : Int) + 1 - 1) = (c : Int) := by rw [show (c : Int) + 1 - 1 = (c : Int) by omega]; simp only [wrap64]; omega
  have hhl := hf.health c hc
  have HS := hide hS
  have HF := hide hf
  have HG := hide hg
  have hl := hS.lt
  clear hS hf hg h0 ec
  cases hh : L.here c with
  | false =>
    have hm : meets L b = false := by unfold meets; rw [hfn, hh]; rfl
    have HL := hide (show fightL L b n = L.setFoe b 0 by unfold fightL; rw [if_neg (by simp [hm])])
    have HE := hide (show fightE L b n = [] by unfold fightE; rw [if_neg (by simp [hm])])
    rw [hh] at d1
    clear hh hm hfn
    go_enter Tryd.func29, Tryd.ntmps29
    go_wp2_with fail
    go_quiet (fail)
    have X := hide ((HS.out.drewN nq).set (by omega) (L.up_foe b hb 0))
    have Y := hide ((HS.out.stp (below_drewN (Below.refl _ _) nq) 165).trans ((HS.out.drewN nq).step (n := 129 + b * 6 + 5) (by omega) (.int .i64 0)))
    go_wp2
    exact bodyPost_ret (v := .tuple #[]) (results_none rfl _ _ _) rfl ⟨rfl, by rw [HL.out, HE.out, List.append_nil]; exact X.out, Y.out⟩
  | true =>
    rw [hh] at d1
    by_cases hr : L.room c = L.room b
    · have hm : meets L b = true := by unfold meets; rw [hfn, hh]; simp [hr]
      have hrb : (L.room c != L.room b) = false := by simp [hr]
      have hge := (good_being HG.out c hc).2.2.2.1
      rw [hh] at hge
      have hhp : 0 < L.health c := by simpa using hge.symm
      have HR := hide hr
      have HM := hide hm
      have HH := hide hh
      have HFN := hide hfn
      clear hr hm hh hfn hge
      go_enter Tryd.func29, Tryd.ntmps29
      go_wp2_with fail
      go_quiet (fail)
      have S0 := hide (HS.out.drewN nq)
      have T0 := hide (HS.out.stp (below_drewN (Below.refl _ _) nq) 165)
      clear c5 c3 d1 d3 f5 HS
      go_wp2_with fail
      refine (rwith_lit S0.out 14 b c hb hc).mono ?_
      rintro e w1 ⟨rfl, hb1⟩
      have S1 := hide (S0.out.below hb1)
      have T1 := hide (T0.out.trans (S0.out.stp hb1 165))
      clear hb1 S0 T0
      go_wp2_with (first | (refine wl_new 52 (.tmp 9) (.tmp 49) rfl rfl _ _ rfl rfl rfl Tryd.sizeEvent rfl (by simp [Value.oneCell']) ?_) | (refine wl_event (.tmp 9) rfl rfl _ { evW L 14 b c with num := n } rfl (heap_alloc_new w1 _) ?_))
      refine (happens_any (S1.out.alloc _) { evW L 14 b c with num := n } (by omega)).mono ?_
      rintro e w2 ⟨rfl, S2h, T2h⟩
      have S2 := hide S2h
      have T2 := hide (T1.out.trans ((S1.out.stp (below_box w1 _) 165).trans T2h))
      have e4 := S2h.being c 4 hc (by omega)
      have g4 := S2h.soft (129 + c * 6 + 4)
      simp only [Ld.beingCell] at e4
      have hwn : wrap64 (L.health c - n) = L.health c - n := by simp only [wrap64]; omega
      have S3 := hide (S2h.set (by omega) (L.up_health c hc (L.health c - n)))
      have T3 := hide (T2.out.trans (S2h.step (n := 129 + c * 6 + 4) (by omega) (.int .i64 (L.health c - n))))
      clear S2h T2h S1 T1 S2 T2
      by_cases hd : L.health c - n < 1
      · have HL := hide (show fightL L b n = dieL (hitL L c n) c by unfold fightL; rw [if_pos HM.out, HFN.out, if_pos hd])
        have HE := hide (show fightE L b n = allE L { evW L 14 b c with num := n } :: dieE (hitL L c n) c by unfold fightE; rw [if_pos HM.out, HFN.out, if_pos hd])
        have hg1 := good_health HG.out hc HH.out (x := 1) (by omega) (by omega)
        have hg2 : goodL ((hitL L c n).setHealth c 1) = true := by unfold hitL; rw [health_twice]; exact hg1
        have hf1 : Fine ((hitL L c n).setHealth c 1) := ((al_health L c _).trans (al_health _ c 1)).fine HF.out hg2
        have hg3 := good_begin (good_letGo hg2 c hc).1 c hc (show L.here c = true from HH.out)
        have hf3 : Fine (beginL (letGoL ((hitL L c n).setHealth c 1) c) c) := (((al_letGo _ c).trans (al_room _ c 0)).trans (al_health _ c 10)).fine hf1 hg3
        have hdd : decide (L.health c - n < 1) = true := by simpa using hd
        have HFF := hide (And.intro hf1 hf3)
        clear hg1 hg2 hf1 hg3 hf3 hd
        go_wp2_with fail
        refine (rdie_any (L := hitL L c n) S3.out c hc HFF.out.1 HFF.out.2 hv (by simp only [List.length_append, List.length_cons, List.length_nil]; omega)).mono ?_
        rintro e w3 ⟨rfl, S4h, T4h⟩
        have S4 := hide S4h
        have T4 := hide (T3.out.trans T4h)
        clear S4h T4h S3 T3
        go_wp2
        go_end0
        exact ⟨rfl, by rw [HL.out, HE.out]; simpa only [List.append_assoc, List.cons_append, List.nil_append] using S4.out, T4.out⟩
      · have HL := hide (show fightL L b n = hitL L c n by unfold fightL; rw [if_pos HM.out, HFN.out, if_neg hd])
        have HE := hide (show fightE L b n = [allE L { evW L 14 b c with num := n }] by unfold fightE; rw [if_pos HM.out, HFN.out, if_neg hd])
        have hdd : decide (L.health c - n < 1) = false := by simpa using hd
        clear hd
        go_wp2
        go_end0
        exact ⟨rfl, by rw [HL.out, HE.out]; exact S3.out, T3.out⟩
    · have hm : meets L b = false := by unfold meets; rw [hfn, hh]; simp [hr]
      have hrb : (L.room c != L.room b) = true := by simp [hr]
      have HL := hide (show fightL L b n = L.setFoe b 0 by unfold fightL; rw [if_neg (by simp [hm])])
      have HE := hide (show fightE L b n = [] by unfold fightE; rw [if_neg (by simp [hm])])
      clear hh hm hfn hr
      go_enter Tryd.func29, Tryd.ntmps29
      go_wp2_with fail
      go_quiet (fail)
      have X := hide ((HS.out.drewN nq).set (by omega) (L.up_foe b hb 0))
      have Y := hide ((HS.out.stp (below_drewN (Below.refl _ _) nq) 165).trans ((HS.out.drewN nq).step (n := 129 + b * 6 + 5) (by omega) (.int .i64 0)))
      go_wp2
      exact bodyPost_ret (v := .tuple #[]) (results_none rfl _ _ _) rfl ⟨rfl, by rw [HL.out, HE.out, List.append_nil]; exact X.out, Y.out⟩
end Go.Proofs.YtaifjndkgfffpaaDoor
/-
  A round leaves a good land good: plain mathematics.
-/
namespace Go.Proofs.YtaifjndkgfffpaaDoor
open Go.RowKit
set_option linter.unusedVariables false

theorem fight_good {L : Ld} (hg : goodL L = true) (b : Nat) (hb : b < 6) (n : Int) (hn1 : 1 ≤ n) (hn3 : n ≤ 3) (h0 : L.foe b ≠ 0) : goodL (fightL L b n) = true ∧ Alike L (fightL L b n) := by
  have hc : foeN L b < 6 := by
    rcases (good_being hg b hb).2.2.2.2 with h | h
    · exact absurd h h0
    · have := amg_pos h.2; unfold foeN; omega
  unfold fightL
  by_cases hm : meets L b = true
  · rw [if_pos hm]
    have hh : L.here (foeN L b) = true := by unfold meets at hm; simp at hm; exact hm.1
    have hge := good_being hg (foeN L b) hc
    have hp : 0 < L.health (foeN L b) := by have := hge.2.2.2.1; rw [hh] at this; simpa using this.symm
    by_cases hd : L.health (foeN L b) - n < 1
    · rw [if_pos hd]
      have hg2 : goodL ((hitL L (foeN L b) n).setHealth (foeN L b) 1) = true := by unfold hitL; rw [health_twice]; exact good_health hg hc hh (by omega) (by omega)
      exact ⟨die_good _ hc hg2 hh, (al_health L _ _).trans (al_die _ _)⟩
    · rw [if_neg hd]
      exact ⟨good_health hg hc hh (by omega) (by omega), al_health L _ _⟩
  · rw [if_neg hm]
    exact ⟨good_foe hg b (.inl rfl), al_foe L b 0⟩
theorem round_good {L : Ld} (hg : goodL L = true) (dr : Nat) : ∀ k, k ≤ 6 → goodL (roundK L dr k).1 = true ∧ Alike L (roundK L dr k).1 := by
  intro k
  induction k with
  | zero => intro _; exact ⟨hg, Alike.refl L⟩
  | succ k ih =>
    intro hk
    obtain ⟨h1, h2⟩ := ih (by omega)
    simp only [roundK]
    by_cases h0 : (roundK L dr k).1.foe k = 0
    · rw [if_pos h0]; exact ⟨h1, h2⟩
    · rw [if_neg h0]
      have := fight_good h1 k (by omega) (blowN dr k) (blow_pos dr k).1 (blow_pos dr k).2 h0
      exact ⟨this.1, h2.trans this.2⟩
/-- What is left of the draw. -/
def drawN (draw : Int) : Nat := ((draw.tmod 3 + 3).tmod 3).toNat
theorem draw_eq (draw : Int) : (draw.tmod 3 + 3).tmod 3 = (drawN draw : Int) ∧ drawN draw < 3 ∧ -3 < draw.tmod 3 ∧ draw.tmod 3 < 3 := by
  have h1 : -3 < draw.tmod 3 := Int.lt_tmod_of_pos draw (by decide)
  have h2 : draw.tmod 3 < 3 := Int.tmod_lt_of_pos draw (by decide)
  have h3 : (draw.tmod 3 + 3).tmod 3 < 3 := Int.tmod_lt_of_pos _ (by decide)
  have h4 : 0 ≤ (draw.tmod 3 + 3).tmod 3 := Int.tmod_nonneg 3 (by omega)
  unfold drawN
  omega
end Go.Proofs.YtaifjndkgfffpaaDoor
