/-
  The contract of the document's own FlowPage.
-/
import Derived.Test.YtbjcmnemcgadjabPgRef2
import Derived.Test.YtbjcmnemcgadjabPgRefEsc
namespace Go.Proofs.Ytbjcmnemcgadjab
open Go.RowKit
set_option linter.unusedVariables false

theorem good_ok {P : Pg} (h : Ok P) : goodP P = true := by
  simp [goodP, gheight, h.ring, h.lo, h.hi, h.len]

theorem small_ok {P : Pg} (h : Ok P) : Small P := small_of P h.ring h.lo h.hi h.len

/-- SendPage at a page that takes more. -/
theorem sendpage_ok (P : Pg) (s : ByteArray) (v : Value) (w : World) (hv : Reads w v P.wait) (ho : Ok P) (hc : P.cut = false) (hz : s.size ≤ maxLen) :
    Calls Try.prog 30 #[.agg (P.cells v), .string s] w fun e w' => e = .returned (.tuple #[.agg ((sentP P s).cells v), .int .i64 0]) ∧ Below w.heap.size w w' := by
  have h := sendpage_any P s v w hv (small_ok ho) hz
  have hr := refusal_ok (good_ok ho) hc
  have e : sendR P s = sentP P s := by unfold sendR; rw [hr, if_pos rfl]
  rw [e, hr] at h
  exact h

theorem cell_put {w : World} {g o b f : Nat} {x u : Value} (h : w.cell? ⟨g, o, none⟩ = some x) (hne : ¬ g = b) : (w.setCell ⟨b, f, none⟩ u).cell? ⟨g, o, none⟩ = some x := by
  have e := Below.heap_setCell w ⟨b, f, none⟩ u g hne
  rw [← h]; simp only [World.cell?, e]

theorem Inv.drew {w0 wr : World} {b : Nat} {P : Pg} {v : Value} (h : Inv w0 b P v wr) : Inv w0 b P v wr.drew := h.behind (Below.refl wr.heap.size wr).drew (Nat.le_refl _)

set_option maxRecDepth 100000 in
set_option maxHeartbeats 2000000 in
theorem flowpage_any (P : Pg) (h : Int) (v : Value) (w : World) (hv : Reads w v P.wait) (hs : Small P) (hall : goodP P = true → ∀ s ∈ P.wait, s.size ≤ 1048576) :
    Calls Try.prog 36 #[.agg (P.cells v), .int .i64 h] w fun e w' => ∃ v', e = .returned (.tuple #[.agg ((flowR P h).cells v'), .int .i64 (flowE P h)]) ∧ Reads w' v' (flowR P h).wait ∧ Below w.heap.size w w' := by
  have C0 := hide (fun w' h => goodpage_any P v w' h hs)
  have C1 := hide (fun w' h => copypage_all P v w' h hs)
  have hv1 := hide hv
  obtain ⟨av, cap, rfl⟩ := hv.shape
  have HR : Hid (flowR P h = if flowG P h = true then flowP h P else P) := hide rfl
  have HE : Hid (flowE P h = if flowG P h = true then 0 else 2) := hide rfl
  have HO : Hid (flowG P h = true → Ok P) := hide (fun hg => by
    simp only [flowG, Bool.and_eq_true] at hg
    have := good_len hg.1
    exact ⟨this.2.1, this.2.2.1, this.2.2.2, this.1, hall hg.1⟩)
  have hT0 := hide (two_new (w := w) (P := P) (v := .slice av P.wait.length cap))
  clear hv hs hall
  generalize flowR P h = R at HR ⊢
  generalize flowE P h = E at HE ⊢
  unfold Pg.cells at C0 C1 ⊢
  go_enter Try.func36, Try.ntmps36
  go_upto_region 1 with fail
  go_cut [17] (fun g wc => g = .bool (!flowG P h) ∧ Two w P (.slice av P.wait.length cap) wc ∧ Reads wc (.slice av P.wait.length cap) P.wait)
  case first =>
    have hF : ∀ w1, Below ((w.alloc (.cells (P.cells (.slice av P.wait.length cap)) 43)).alloc (.cells (zp.cells (.slice none 0 0)) 43)).heap.size ((w.alloc (.cells (P.cells (.slice av P.wait.length cap)) 43)).alloc (.cells (zp.cells (.slice none 0 0)) 43)) w1 → Two w P (.slice av P.wait.length cap) w1 ∧ Reads w1 (.slice av P.wait.length cap) P.wait := fun w1 hb1 => ⟨hT0.out.behind hb1 (Nat.le_refl _), ((hv1.out.alloc _).alloc _).below hb1 (Nat.le_refl _)⟩
    replace hF := hide hF
    cases hg : goodP P
    · have HG := hide (by simp [flowG, hg] : flowG P h = false)
      replace hg := hide hg
      go_wp2_with fail
      refine (C0.out _ ((hv1.out.alloc _).alloc _)).mono ?_
      rintro e w1 ⟨rfl, hb1⟩
      have hF1 := hide (hF.out w1 hb1)
      rw [hg.out]
      clear hb1 hF
      go_wp2_with fail
      go_meet
      exact ⟨by rw [HG.out]; rfl, hF1.out⟩
    · by_cases h0 : 0 ≤ h
      · by_cases h2 : h ≤ 200
        · have HG := hide (by simp [flowG, hg, gheight, h0, h2] : flowG P h = true)
          replace hg := hide hg
          go_wp2_with fail
          refine (C0.out _ ((hv1.out.alloc _).alloc _)).mono ?_
          rintro e w1 ⟨rfl, hb1⟩
          have hF1 := hide (hF.out w1 hb1)
          rw [hg.out]
          clear hb1 hF
          go_wp2_with fail
          go_meet
          exact ⟨by rw [HG.out]; first | (simp; omega) | simp, hF1.out⟩
        · have HG := hide (by simp [flowG, hg, gheight, h2] : flowG P h = false)
          replace hg := hide hg
          go_wp2_with fail
          refine (C0.out _ ((hv1.out.alloc _).alloc _)).mono ?_
          rintro e w1 ⟨rfl, hb1⟩
          have hF1 := hide (hF.out w1 hb1)
          rw [hg.out]
          clear hb1 hF
          go_wp2_with fail
          go_meet
          exact ⟨by rw [HG.out]; first | (simp; omega) | simp, hF1.out⟩
      · have HG := hide (by simp [flowG, hg, gheight, h0] : flowG P h = false)
        replace hg := hide hg
        go_wp2_with fail
        refine (C0.out _ ((hv1.out.alloc _).alloc _)).mono ?_
        rintro e w1 ⟨rfl, hb1⟩
        have hF1 := hide (hF.out w1 hb1)
        rw [hg.out]
        clear hb1 hF
        go_wp2_with fail
        go_meet
        exact ⟨by rw [HG.out]; rfl, hF1.out⟩
  case rest =>
    obtain ⟨rfl, hT1, hv2⟩ := hcut
    obtain ⟨c0, c1, c2, c3, c4, hfz⟩ := hT1.cod.all
    cases hG : flowG P h
    · have HR2 := hide (HR.out.trans (by rw [hG]; rfl) : R = P)
      have HE2 := hide (HE.out.trans (by rw [hG]; rfl) : E = 2)
      obtain ⟨d0, d1, d2, d3, d4, hfd⟩ := hT1.other.all
      have hz2 := hT1.room
      have F2 := hide (reads_five (b := w.heap.size + 1) (x0 := .slice av P.wait.length cap) (x1 := .int .i64 P.shown) (x2 := .bool P.asking) (x3 := .string P.ring) (x4 := .bool P.cut) hv2 (off_old hv1.out (by omega)))
      replace hT1 := hide hT1
      replace hv2 := hide hv2
      clear HO HR HE hG C0 C1 hT0
      go_wp2
      obtain ⟨f1, f3⟩ := hT1.out.done (P' := P) (v' := .slice av P.wait.length cap)
      exact bodyPost_ret (res2 Try.results36 rfl rfl f1) rfl ⟨_, by rw [HR2.out, HE2.out]; rfl, by rw [HR2.out]; exact F2.out, f3⟩
    · have HR2 := hide (HR.out.trans (by rw [hG]; rfl) : R = flowP h P)
      have HE2 := hide (HE.out.trans (by rw [hG]; rfl) : E = 0)
      have hok := hide (HO.out hG)
      replace hT1 := hide hT1
      replace hv2 := hide hv2
      clear HO HR HE hG C0 hT0
      go_upto_region 3 with fail
      go_cut [] (fun wd => ∃ v2, Inv w w.heap.size P v2 wd)
      case first =>
        go_wp2_with fail
        refine (C1.out _ hv2.out).mono ?_
        rintro e w2 ⟨v2, rfl, ho, hb2⟩
        have hT2 := hT1.out.behind hb2 (Nat.le_refl _)
        have hrm := hT1.out.room
        have hi := hide (two_lay (P' := P) hT2 (reads_own ho) ((far_own ho).mono (by omega)))
        obtain ⟨av2, cap2, rfl⟩ := own_shape ho
        clear c0 c1 c2 c3 c4 hfz
        obtain ⟨c0, c1, c2, c3, c4, hfz⟩ := hT2.cod.all
        have hz2 := hT2.room
        clear hT2 hb2 ho
        go_wp2_with fail
        go_meet
        exact ⟨_, hi.out⟩
      case rest =>
        obtain ⟨v2, hi⟩ := hcut
        clear c0 c1 c2 c3 c4 hfz hT1 hv2 C1 hv1
        replace hi := hide hi
        go_wp2_with fail
        go_loopw [] (fun wr => ∃ (Q : Pg) (u : Value), Inv w w.heap.size Q u wr ∧ Ok Q ∧ Hid (flowP h Q = R)) (fun wr => left w.heap.size wr)
        case atStart => exact ⟨P, v2, hi.out, hok.out, hide HR2.out.symm⟩
        case round =>
          obtain ⟨⟨q, sh, ak, rg, ct⟩, u, hI, hQ, HQ⟩ := hrel
          clear hi hok HR2
          have HL := hide (left_cod hI.cod hI.reads)
          obtain ⟨av, cap, rfl⟩ := hI.reads.shape
          obtain ⟨c0, c1, c2, c3, c4, hfz⟩ := hI.cod.all
          obtain ⟨d0, d1, d2, d3, d4, hfd⟩ := hI.other.all
          have hz2 := hI.room
          cases q with
          | nil =>
            replace hI := hide hI
            simp only [List.length_nil] at c0 c1 c2 c3 c4
            have HX := hide (HQ.out.symm.trans (flow_nil rfl) : R = _)
            clear HQ HL hQ
            go_wp2
            obtain ⟨f1, f2, f3⟩ := hI.out.done
            exact bodyPost_ret (res2 Try.results36 rfl rfl f1) rfl ⟨_, by rw [HX.out, HE2.out]; rfl, by rw [HX.out]; exact f2, f3⟩
          | cons f r =>
            simp only [List.length_cons] at c0 c1 c2 c3 c4
            cases ak with
            | true =>
              replace hI := hide hI
              have HX := hide (HQ.out.symm.trans (flow_stop (.inl rfl)) : R = _)
              clear HQ HL hQ
              go_wp2
              obtain ⟨f1, f2, f3⟩ := hI.out.done
              exact bodyPost_ret (res2 Try.results36 rfl rfl f1) rfl ⟨_, by rw [HX.out, HE2.out]; rfl, by rw [HX.out]; exact f2, f3⟩
            | false =>
              cases ct with
              | true =>
                replace hI := hide hI
                have HX := hide (HQ.out.symm.trans (flow_stop (.inr rfl)) : R = _)
                clear HQ HL hQ
                go_wp2
                obtain ⟨f1, f2, f3⟩ := hI.out.done
                exact bodyPost_ret (res2 Try.results36 rfl rfl f1) rfl ⟨_, by rw [HX.out, HE2.out]; rfl, by rw [HX.out]; exact f2, f3⟩
              | false =>
                by_cases hh : h ≠ 0 ∧ h ≤ sh
                · have CA : Hid (∀ w', Reads w' (.slice av (r.length + 1) cap) (f :: r) → Calls Try.prog 30 #[.agg (Pg.cells ⟨f :: r, sh, true, rg, false⟩ (.slice av (r.length + 1) cap)), .string moreB] w' fun e w'' => e = .returned (.tuple #[.agg ((askedP ⟨f :: r, sh, false, rg, false⟩).cells (.slice av (r.length + 1) cap)), .int .i64 0]) ∧ Below w'.heap.size w' w'') :=
                    hide (fun w' hr => sendpage_ok ⟨f :: r, sh, true, rg, false⟩ moreB _ w' hr ⟨hQ.ring, hQ.lo, hQ.hi, hQ.len, hQ.all⟩ rfl (by decide))
                  have HF := hide (HQ.out.symm.trans ((flow_ask rfl rfl rfl hh).trans (flow_stop (.inl (by unfold askedP; rw [sent_asking])))))
                  have HW : Hid ((askedP ⟨f :: r, sh, false, rg, false⟩).wait = f :: r) := hide (by unfold askedP; rw [sent_wait])
                  generalize askedP ⟨f :: r, sh, false, rg, false⟩ = A at CA HF HW
                  have hh1 : ¬ h = 0 := hh.1
                  have hh2 : h ≤ sh := hh.2
                  clear hQ HQ hh
                  unfold Pg.cells moreB at CA
                  dsimp only at CA
                  go_upto_region 7 with fail
                  go_cut [] (fun wc => ∃ v', Inv w w.heap.size ⟨f :: r, sh, true, rg, false⟩ (.slice av (r.length + 1) cap) wc ∧ v' = h)
                  case first =>
                    have hI2 := hide (hI.put (P' := ⟨f :: r, sh, true, rg, false⟩) (v' := .slice av (r.length + 1) cap) 2 (.bool true) (by simp [Pg.cells]) hI.reads hI.far)
                    clear hI
                    go_wp2_with fail
                    go_meet
                    exact ⟨_, hI2.out, rfl⟩
                  case rest =>
                    obtain ⟨_, hI2, _⟩ := hcut
                    clear hI c0 c1 c2 c3 c4 hfz d0 d1 d2 d3 d4 hfd hz2
                    obtain ⟨c0, c1, c2, c3, c4, hfz⟩ := hI2.cod.all
                    have hz2 := hI2.room
                    replace hI2 := hide hI2
                    dsimp only at c0 c1 c2 c3 c4
                    go_upto_region 8 with fail
                    go_cut [] (fun wd => Inv w w.heap.size A (.slice av (r.length + 1) cap) wd)
                    case first =>
                      go_wp2_with fail
                      refine (CA.out _ hI2.out.reads).mono ?_
                      rintro e w1 ⟨rfl, hb1⟩
                      have hI1 := hI2.out.behind hb1 (Nat.le_refl _)
                      clear c0 c1 c2 c3 c4 hfz hI2
                      obtain ⟨c0, c1, c2, c3, c4, hfz⟩ := hI1.cod.all
                      have hI3 := hide (hI1.lay (P' := A) (v' := .slice av (r.length + 1) cap) (by rw [HW.out]; exact hI1.reads) hI1.far)
                      dsimp only at c0 c1 c2 c3 c4
                      have hz3 := hI1.room
                      clear hI1 hb1
                      go_wp2_with fail
                      go_meet
                      exact hI3.out
                    case rest =>
                      clear c0 c1 c2 c3 c4 hfz hI2 hz2
                      obtain ⟨c0, c1, c2, c3, c4, hfz⟩ := hcut.cod.all
                      obtain ⟨d0, d1, d2, d3, d4, hfd⟩ := hcut.other.all
                      have hz2 := hcut.room
                      have hI4 := hide hcut
                      clear hcut
                      go_wp2
                      obtain ⟨f1, f2, f3⟩ := hI4.out.done
                      exact bodyPost_ret (res2 Try.results36 rfl rfl f1) rfl ⟨_, by rw [HF.out, HE2.out]; rfl, by rw [HF.out]; exact f2, f3⟩
                · have hh' := hide hh
                  have HF := hide (HQ.out.symm.trans (flow_show rfl rfl rfl hh)).symm
                  have HK := hide (ok_shown hQ rfl)
                  have HW : Hid ((shownP ⟨f :: r, sh, false, rg, false⟩ f r).wait = r) := hide (by unfold shownP; rw [sent_wait])
                  have hOm : Hid (Ok ⟨r, min (sh + 1) 200, false, rg, false⟩) := hide (by
                    have h1 := hQ.lo
                    have h2 := hQ.len
                    simp only [List.length_cons] at h1 h2
                    exact ⟨hQ.ring, by show 0 ≤ min (sh + 1) 200; omega, by show min (sh + 1) 200 ≤ 200; omega, by show r.length ≤ 60; omega, fun s hs => hQ.all s (List.mem_cons_of_mem _ hs)⟩)
                  have hfs : f.size ≤ 1048576 := hQ.all f (List.mem_cons_self ..)
                  have CE := hide (fun w' => refesc_any f w' hfs)
                  have CS : Hid (∀ v' w', Reads w' v' r → Calls Try.prog 30 #[.agg (Pg.cells ⟨r, min (sh + 1) 200, false, rg, false⟩ v'), .string (lineB f)] w' fun e w'' => e = .returned (.tuple #[.agg ((shownP ⟨f :: r, sh, false, rg, false⟩ f r).cells v'), .int .i64 0]) ∧ Below w'.heap.size w' w'') :=
                    hide (fun v' w' hr => sendpage_ok ⟨r, min (sh + 1) 200, false, rg, false⟩ (lineB f) v' w' hr hOm.out rfl (by have := line_size f hfs; unfold maxLen; omega))
                  generalize shownP ⟨f :: r, sh, false, rg, false⟩ f r = A at CS HF HK HW
                  have hmn : ∀ (w : World) ts t, (Builtin.min_ ts t #[.int .i64 200, .int .i64 (sh + 1)]).run Try.prog w = .ok (.int .i64 (min (sh + 1) 200)) w := fun w ts t => by
                    rw [run_min_int2]; congr 2; split <;> omega
                  have hlo : 0 ≤ sh := hQ.lo
                  have hhi : sh ≤ 200 := hQ.hi
                  have hesz := esc_size f
                  have hadd : ¬ 9223372036854775807 < (esc f).size + 2 := by omega
                  generalize hmm : min (sh + 1) 200 = m at CS hmn hOm
                  clear hmm
                  obtain ⟨g, off, cap', ev, hc0, hlc⟩ := reads_head hI.reads
                  dsimp only [List.length_cons] at ev
                  injection ev with e1 e2 e3
                  subst e1 e3
                  have hglt := cell_lt hc0
                  dsimp only at hglt
                  have hgf : ¬ g = w.heap.size := by have := hI.far g off _ _ rfl; omega
                  have htl := hide (reads_tail hI.reads)
                  have hff := hide (hI.far g off _ _ rfl)
                  clear hQ HQ
                  go_upto_region 6 with fail
                  go_cut [41] (fun c wc => c = .bool false ∧ wc = wr)
                  case first =>
                    by_cases hz : h = 0
                    · subst hz
                      go_wp2_with fail
                      go_meet
                      exact ⟨rfl, rfl⟩
                    · have hnl : ¬ h ≤ sh := fun e => hh ⟨hz, e⟩
                      clear hh
                      go_wp2_with fail
                      go_meet
                      exact ⟨by first | (simp; omega) | simp, rfl⟩
                  case rest =>
                    obtain ⟨rfl, hw⟩ := hcut
                    rw [hw]
                    clear hw hh
                    go_upto_region 10 with fail
                    go_cut [] (fun wd => Inv w w.heap.size ⟨f :: r, m, false, rg, false⟩ (.slice (some ⟨g, off, none⟩) (r.length + 1) cap) wd ∧ wd.cell? ⟨g, off, none⟩ = some (.string f))
                    case first =>
                      have hI1 := hide (hI.put (P' := ⟨f :: r, m, false, rg, false⟩) (v' := .slice (some ⟨g, off, none⟩) (r.length + 1) cap) 1 (.int .i64 m) (by simp [Pg.cells]) hI.reads hI.far)
                      have hc1 := hide (cell_put (f := 1) (u := .int .i64 m) hc0 hgf)
                      clear hI
                      go_wp2_with fail
                      go_meet
                      exact ⟨hI1.out, hc1.out⟩
                    case rest =>
                      obtain ⟨hI1, hc1⟩ := hcut
                      clear c0 c1 c2 c3 c4 hfz d0 d1 d2 d3 d4 hfd hz2 hI hc0 hglt htl hmn
                      have htl := reads_tail hI1.reads
                      obtain ⟨c0, c1, c2, c3, c4, hfz⟩ := hI1.cod.all
                      have hz2 := hI1.room
                      have hglt := cell_lt hc1
                      dsimp only [List.length_cons] at c0 c1 c2 c3 c4 hglt
                      go_upto_region 12 with fail
                      go_cut [] (fun we => ∃ v', Inv w w.heap.size ⟨r, m, false, rg, false⟩ v' we)
                      case first =>
                        by_cases hcap : cap = 1
                        · subst hcap
                          obtain rfl : r = [] := List.eq_nil_of_length_eq_zero (by omega)
                          rw [if_pos rfl] at htl
                          have hfr : Far (w.heap.size + 2) (.slice (some ⟨g, off, none⟩) 0 0) := fun b o n c e => by injection e with e1; injection e1 with e1; injection e1 with e1; have := hff.out; omega
                          have hI2 := hide (hI1.put (P' := ⟨[], m, false, rg, false⟩) (v' := .slice (some ⟨g, off, none⟩) 0 0) 0 (.slice (some ⟨g, off, none⟩) 0 0) (by simp [Pg.cells]) htl hfr)
                          clear hI1 htl hfr
                          go_wp2_with fail
                          go_meet
                          exact ⟨_, hI2.out⟩
                        · rw [if_neg hcap] at htl
                          have hfr : Far (w.heap.size + 2) (.slice (some ⟨g, off + 1, none⟩) r.length (cap - 1)) := fun b o n c e => by injection e with e1; injection e1 with e1; injection e1 with e1; have := hff.out; omega
                          have hI2 := hide (hI1.put (P' := ⟨r, m, false, rg, false⟩) (v' := .slice (some ⟨g, off + 1, none⟩) r.length (cap - 1)) 0 (.slice (some ⟨g, off + 1, none⟩) r.length (cap - 1)) (by simp [Pg.cells]) htl hfr)
                          clear hI1 htl hfr
                          go_wp2_with fail
                          go_meet
                          exact ⟨_, hI2.out⟩
                      case rest =>
                        obtain ⟨v5, hI5⟩ := hcut
                        clear c0 c1 c2 c3 c4 hfz hz2 hI1 hc1 hglt htl
                        obtain ⟨a5, cap5, rfl⟩ := hI5.reads.shape
                        obtain ⟨c0, c1, c2, c3, c4, hfz⟩ := hI5.cod.all
                        have hz2 := hI5.room
                        dsimp only at c0 c1 c2 c3 c4
                        have hI5d := hide hI5.drew
                        unfold Pg.cells lineB crlf at CS
                        dsimp only at CS
                        clear hI5
                        go_upto_region 13 with fail
                        go_region_with (first | (go_at_call 51; refine (CE.out _).mono ?_; rintro e w3 ⟨rfl, hb3⟩; have hi3 := hI5d.out.behind hb3 (Nat.le_refl _); obtain ⟨e0, e1, e2, e3, e4, efz⟩ := hi3.cod.all; replace hi3 := hide hi3) | (go_at_call 30; refine (CS.out _ _ hi3.out.reads).mono ?_; rintro e w4 ⟨rfl, hb4⟩; have hi4 := hi3.out.behind hb4 (Nat.le_refl _); have hL4 := hide (hi4.lay (P' := A) (v' := .slice a5 r.length cap5) (by rw [HW.out]; exact hi4.reads) hi4.far); obtain ⟨g0, g1, g2, g3, g4, gfz⟩ := hi4.cod.all; have hz4 := hi4.room; clear hi4))
                        all_goals go_wp2
                        all_goals refine ⟨⟨A, _, hL4.out, HK.out, HF⟩, ?_⟩
                        all_goals rw [HL.out, left_cod hL4.out.cod hL4.out.reads, HW.out]
                        all_goals simp only [List.length_cons]
                        all_goals (split <;> split <;> omega)
end Go.Proofs.Ytbjcmnemcgadjab
