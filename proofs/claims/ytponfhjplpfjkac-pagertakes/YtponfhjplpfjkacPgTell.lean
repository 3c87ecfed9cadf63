/-
  The contract of Tell of package pager.
-/
import Derived.Test.YtponfhjplpfjkacPgTake
namespace Go.Proofs.Ytponfhjplpfjkac
open Go.RowKit
set_option linter.unusedVariables false

def tellP (P : Pg) (s : ByteArray) : Pg := if refusal P = 0 then (if P.wait.length = 60 then { P with cut := true } else { P with wait := P.wait ++ [s] }) else P

theorem refusal_good {P : Pg} (h : refusal P = 0) : goodP P = true ∧ P.cut = false := by
  unfold refusal at h
  cases hg : goodP P with
  | false => simp [hg] at h
  | true => cases hc : P.cut with
    | false => exact ⟨rfl, rfl⟩
    | true => simp [hg, hc] at h

theorem good_len {P : Pg} (h : goodP P = true) : P.wait.length ≤ 60 ∧ P.ring.size ≤ 700 ∧ 0 ≤ P.shown ∧ P.shown ≤ 200 := by
  simp only [goodP, gheight, Bool.and_eq_true, decide_eq_true_eq] at h
  omega

set_option maxRecDepth 100000 in
set_option maxHeartbeats 1000000 in
theorem tell_any (P : Pg) (s : ByteArray) (v : Value) (w : World) (hv : Reads w v P.wait) (hs : Small P) : Calls Try.prog 8 #[.agg (P.cells v), .string s] w fun e w' => ∃ v', e = .returned (.tuple #[.agg ((tellP P s).cells v'), .int .i64 (refusal P)]) ∧ Reads w' v' (tellP P s).wait ∧ Far (w.heap.size + 2) v' ∧ Below w.heap.size w w' := by
  have C0 := hide (fun w' h => refused_any P v w' h hs)
  have C1 := hide (fun w' h => own_all P v w' h hs)
  have hv1 := hide hv
  have hlen := hs.len
  obtain ⟨i0, hi0, hz0, hz1, hz2⟩ := info_parts Try.info9
  obtain ⟨av, cap, rfl⟩ := hv.shape
  have hT := two_new (w := w) (P := P) (v := .slice av P.wait.length cap)
  clear hv hs
  have HG : Hid (refusal P = 0 → goodP P = true ∧ P.cut = false) := hide refusal_good
  generalize hR : refusal P = R at C0 HG ⊢
  have HT := hide (show tellP P s = if R = 0 then (if P.wait.length = 60 then { P with cut := true } else { P with wait := P.wait ++ [s] }) else P by unfold tellP; rw [hR])
  clear hR
  have HW : ∀ w1, Below (w.heap.size + 2) ((w.alloc (.cells (P.cells (.slice av P.wait.length cap)) 25)).alloc (.cells (zp.cells (.slice none 0 0)) 25)) w1 → Two w P (.slice av P.wait.length cap) w1 ∧ Reads w1 (.slice av P.wait.length cap) P.wait := fun w1 hb => ⟨hT.behind hb (by simp), ((hv1.out.alloc _).alloc _).below hb (by simp)⟩
  replace HW := hide HW
  have hT0 := hide hT
  clear hT
  unfold Pg.cells at C0 C1 ⊢
  go_enter Try.func8, Try.ntmps8
  go_upto_region 2 with (go_at_call 17; refine (C0.out _ ((hv1.out.alloc _).alloc _)).mono ?_; rintro e w1 ⟨rfl, hb1⟩)
  rw [World.size_alloc, World.size_alloc] at hb1
  obtain ⟨hT1, hv2⟩ := HW.out w1 hb1
  obtain ⟨c0, c1, c2, c3, c4, hfz⟩ := hT1.cod.all
  have hb1' := hide hb1
  replace hT1 := hide hT1
  replace hv2 := hide hv2
  clear hb1 hT0
  go_cut [] (fun wc => ∃ v2, Inv w w.heap.size P v2 wc ∧ wc.ownsRow (w.heap.size + 2) 9 1 v2 P.wait.length (scells P.wait))
  case first =>
    go_wp2_with fail
    refine (C1.out _ hv2.out).mono ?_
    rintro e w2 ⟨v2, rfl, ho, hb2⟩
    have hrm := hT1.out.room
    have ho2 := own_base ho (by omega : w.heap.size + 2 ≤ w1.heap.size + 2)
    have hb3 := (hb1'.out).trans (hb2.mono (by omega))
    have hi := inv_own (P := P) (v := .slice av P.wait.length cap) hb3 (reads_own ho) (far_own ho2)
    obtain ⟨av2, cap2, rfl⟩ := own_shape ho
    have HO := hide (own_five (x0 := .slice av2 P.wait.length cap2) (x1 := .int .i64 P.shown) (x2 := .bool P.asking) (x3 := .string P.ring) (x4 := .bool P.cut) (b := w.heap.size) ho2 (by omega))
    have hT2 := hT1.out.behind hb2 (Nat.le_refl _)
    clear c0 c1 c2 c3 c4 hfz
    obtain ⟨c0, c1, c2, c3, c4, hfz⟩ := hT2.cod.all
    have hzr := hT2.room
    replace hi := hide hi
    clear hT2 hb2 ho ho2 hb3
    go_wp2_with fail
    go_meet
    exact ⟨_, hi.out, HO.out⟩
  case rest =>
    obtain ⟨v2, hi, ho⟩ := hcut
    obtain ⟨av2, cap2, rfl⟩ := own_shape ho
    clear c0 c1 c2 c3 c4 hfz
    obtain ⟨c0, c1, c2, c3, c4, hfz⟩ := hi.cod.all
    obtain ⟨d0, d1, d2, d3, d4, hfd⟩ := hi.other.all
    have hzr := hi.room
    have hfar := hi.far
    by_cases hR0 : R = 0
    · subst hR0
      obtain ⟨hg, hcut0⟩ := HG.out rfl
      have hl := (good_len hg).1
      clear hg HG
      by_cases h60 : P.wait.length = 60
      · have HE := hide (HT.out.trans (by simp [h60]) : tellP P s = { P with cut := true })
        have hi3 := hide (hi.put (P' := { P with cut := true }) 4 (.bool true) (by simp [Pg.cells]) hi.reads hi.far)
        have e60 : ((P.wait.length : Int) == 60) = true := by simp [h60]
        clear hi ho h60 hl HT hcut0
        go_wp2
        obtain ⟨f1, f2, f3⟩ := hi3.out.done
        exact bodyPost_ret (res2 Try.results8 rfl rfl f1) rfl ⟨_, by rw [HE.out]; rfl, by rw [HE.out]; exact f2, hi3.out.far, f3⟩
      · have HE := hide (HT.out.trans (by simp [h60]) : tellP P s = { P with wait := P.wait ++ [s] })
        have e60 : ((P.wait.length : Int) == 60) = false := by simp; omega
        have HI := hide hi
        have hroom := hi.room
        clear hi h60 HT hcut0
        go_wp2_with (at_builtin; refine wpList_append_own_at _ rfl (.tmp 22) (.tmp 24) 22 rfl (w.heap.size + 2) 9 i0 (.string ⟨#[]⟩) 1 16 Try.underlying22 hi0 hz0 hz1 hz2 rfl (by decide) _ P.wait.length (scells P.wait) rfl (ho.alloc _) ⟨wc.heap.size, 0, none⟩ 1 1 (scells [s]) rfl ?a1 ?a2 (scells_one _) ?a3 ?a4 ?a5 ?_)
        case a1 => rfl
        case a2 =>
          intro j u hj
          cases j with
          | zero => simp [scells] at hj; subst hj; exact cell_new (by simp) _ _
          | succ j => simp [scells] at hj
        case a3 => unfold maxLen; omega
        case a4 => omega
        case a5 => simp; omega
        intro v3 w3 ho3 hg3 _ _
        have hbw : Below (wc.heap.size) wc (wc.alloc (.cells #[.string s] 9)) := (Below.refl _ _).alloc (Nat.le_refl _) _
        have ho3' : w3.ownsRow (w.heap.size + 2) 9 1 v3 (P.wait ++ [s]).length (scells (P.wait ++ [s])) := by
          rw [scells_append, List.length_append]; exact ho3
        have hIA := HI.out.behind hbw (Nat.le_refl _)
        have hkeep : ∀ k, k < w.heap.size + 2 → w3.heap[k]? = (wc.alloc (.cells #[.string s] 9)).heap[k]? := fun k hk => hg3.block k (by simp; omega) (fun e => by have := (ho.lt k e.symm).1; omega)
        have hcd : Cod w3 w.heap.size P (.slice av2 P.wait.length cap2) := by unfold Cod; rw [hkeep _ (by omega)]; exact hIA.cod
        have hcz : Cod w3 (w.heap.size + 1) zp (.slice none 0 0) := by unfold Cod; rw [hkeep _ (by omega)]; exact hIA.other
        have hb3 : Below w.heap.size w w3 := hIA.below.grown hg3 (by simp; omega) (fun k e => by have := (ho.lt k e).1; omega)
        have hi3 : Inv w w.heap.size { P with wait := P.wait ++ [s] } v3 (w3.setCell ⟨w.heap.size, 0, none⟩ v3) :=
          ⟨Nat.le_refl _, hb3.setCell (Nat.le_refl _) _, cod_mk (cod_set hcd 0 v3) (by simp [Pg.cells]), cod_ne hcz (by omega) _ _, (reads_own ho3').put (off_far (far_own ho3') (by omega)) _ _, far_own ho3'⟩
        obtain ⟨av3, cap3, rfl⟩ := own_shape ho3
        clear c0 c1 c2 c3 c4 hfz d0 d1 d2 d3 d4 hfd
        obtain ⟨c0, c1, c2, c3, c4, hfz⟩ := hcd.all
        obtain ⟨d0, d1, d2, d3, d4, hfd⟩ := hcz.all
        have hz3 := hcz.lt
        replace hi3 := hide hi3
        clear ho3 hg3 hbw ho3' hIA hkeep hcd hcz hb3 HI ho
        go_wp2
        obtain ⟨f1, f2, f3⟩ := hi3.out.done
        exact bodyPost_ret (res2 Try.results8 rfl rfl f1) rfl ⟨_, by rw [HE.out]; rfl, by rw [HE.out]; exact f2, hi3.out.far, f3⟩
    · have HE := hide (HT.out.trans (by simp [hR0]) : tellP P s = P)
      have hi3 := hide hi
      have hRb : (R == 0) = false := by simp [hR0]
      clear hi ho HT HG
      go_wp2
      obtain ⟨f1, f2, f3⟩ := hi3.out.done
      exact bodyPost_ret (res2 Try.results8 rfl rfl f1) rfl ⟨_, by rw [HE.out]; rfl, by rw [HE.out]; exact f2, hi3.out.far, f3⟩
end Go.Proofs.Ytponfhjplpfjkac
