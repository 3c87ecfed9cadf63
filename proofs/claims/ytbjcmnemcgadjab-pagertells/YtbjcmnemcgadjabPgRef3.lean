/-
  The contract of the document's own TellPage.
-/
import Derived.Test.YtbjcmnemcgadjabPgRef2
namespace Go.Proofs.Ytbjcmnemcgadjab
open Go.RowKit
set_option linter.unusedVariables false

set_option maxRecDepth 100000 in
set_option maxHeartbeats 1000000 in
theorem tellpage_aux (q : List ByteArray) (sh : Int) (ak : Bool) (rg : ByteArray) (ct : Bool) (s : ByteArray) (v : Value) (w : World) (hv : Reads w v q) (hs : Small ⟨q, sh, ak, rg, ct⟩) :
    Calls Try.prog 25 #[.agg #[v, .int .i64 sh, .bool ak, .string rg, .bool ct], .string s] w fun e w' => ∃ v', e = .returned (.tuple #[.agg ((tellP ⟨q, sh, ak, rg, ct⟩ s).cells v'), .int .i64 (refusal ⟨q, sh, ak, rg, ct⟩)]) ∧ Reads w' v' (tellP ⟨q, sh, ak, rg, ct⟩ s).wait ∧ Below w.heap.size w w' := by
  have C0 := hide (fun w' h => goodpage_any ⟨q, sh, ak, rg, ct⟩ v w' h hs)
  have C1 := hide (fun w' h => copypage_all ⟨q, sh, ak, rg, ct⟩ v w' h hs)
  have hv1 := hide hv
  have hlen := hs.len
  obtain ⟨i0, hi0, hz0, hz1, hzb⟩ := info_parts Try.info9
  obtain ⟨av, cap, rfl⟩ := hv.shape
  have hT0 := hide (two_new (w := w) (P := ⟨q, sh, ak, rg, ct⟩) (v := .slice av q.length cap))
  have HT : Hid (tellP ⟨q, sh, ak, rg, ct⟩ s = if refusal ⟨q, sh, ak, rg, ct⟩ = 0 then (if q.length = 60 then ⟨q, sh, ak, rg, true⟩ else ⟨q ++ [s], sh, ak, rg, ct⟩) else ⟨q, sh, ak, rg, ct⟩) := hide rfl
  generalize tellP ⟨q, sh, ak, rg, ct⟩ s = T at HT ⊢
  clear hv hs
  unfold Pg.cells at C0 C1
  unfold Pg.cells
  dsimp only at C0 C1 hlen
  go_enter Try.func25, Try.ntmps25
  go_upto_region 1 with fail
  go_cut [8] (fun c wc => c = .bool (!goodP ⟨q, sh, ak, rg, ct⟩) ∧ Two w ⟨q, sh, ak, rg, ct⟩ (.slice av q.length cap) wc ∧ Reads wc (.slice av q.length cap) q)
  case first =>
    go_wp2_with fail
    refine (C0.out _ ((hv1.out.alloc _).alloc _)).mono ?_
    rintro e w1 ⟨rfl, hb1⟩
    have hT1 := hide (hT0.out.behind hb1 (Nat.le_refl _))
    have hv2 := hide (((hv1.out.alloc _).alloc _).below hb1 (Nat.le_refl _))
    clear hb1
    go_wp2_with fail
    go_meet
    exact ⟨rfl, hT1.out, hv2.out⟩
  case rest =>
    obtain ⟨rfl, hT1, hv2⟩ := hcut
    obtain ⟨c0, c1, c2, c3, c4, cfz⟩ := hT1.cod.all
    obtain ⟨d0, d1, d2, d3, d4, dfz⟩ := hT1.other.all
    have hzr := hT1.room
    dsimp only at c0 c1 c2 c3 c4
    have F2 := hide (reads_five (b := w.heap.size + 1) (x0 := .slice av q.length cap) (x1 := .int .i64 sh) (x2 := .bool ak) (x3 := .string rg) (x4 := .bool ct) hv2 (off_old hv1.out (by omega)))
    replace hv2 := hide hv2
    replace hT1 := hide hT1
    clear C0 hT0
    cases hg : goodP ⟨q, sh, ak, rg, ct⟩
    · have H1 := hide (refusal_bad hg)
      have H2 := hide (HT.out.trans (by rw [H1.out]; rfl) : T = ⟨q, sh, ak, rg, ct⟩)
      clear HT hg
      go_wp2
      obtain ⟨f1, f3⟩ := hT1.out.done (P' := ⟨q, sh, ak, rg, ct⟩) (v' := .slice av q.length cap)
      exact bodyPost_ret (res2 Try.results25 rfl rfl f1) rfl ⟨_, by rw [H1.out, H2.out]; rfl, by rw [H2.out]; exact F2.out, f3⟩
    · cases ct with
      | true =>
        have H1 := hide (refusal_cut hg rfl)
        have H2 := hide (HT.out.trans (by rw [H1.out]; rfl) : T = ⟨q, sh, ak, rg, true⟩)
        clear HT hg
        go_wp2
        obtain ⟨f1, f3⟩ := hT1.out.done (P' := ⟨q, sh, ak, rg, true⟩) (v' := .slice av q.length cap)
        exact bodyPost_ret (res2 Try.results25 rfl rfl f1) rfl ⟨_, by rw [H1.out, H2.out]; rfl, by rw [H2.out]; exact F2.out, f3⟩
      | false =>
        have H1 := hide (refusal_ok hg rfl)
        have hl := (good_len hg).1
        dsimp only at hl
        clear hg F2
        go_upto_region 5 with fail
        go_cut [] (fun wd => ∃ v2, Inv w w.heap.size ⟨q, sh, ak, rg, false⟩ v2 wd ∧ wd.ownsRow (w.heap.size + 2) 9 1 v2 q.length (scells q))
        case first =>
          go_wp2_with fail
          refine (C1.out _ hv2.out).mono ?_
          rintro e w2 ⟨v2, rfl, ho, hb2⟩
          have ho2 := own_base ho (by omega : w.heap.size + 2 ≤ wc.heap.size + 2)
          have hT2 := hT1.out.behind hb2 (Nat.le_refl _)
          have hi := hide (two_lay (P' := ⟨q, sh, ak, rg, false⟩) hT2 (reads_own ho) (far_own ho2))
          obtain ⟨av2, cap2, rfl⟩ := own_shape ho
          have HO := hide (own_five (x0 := .slice av2 q.length cap2) (x1 := .int .i64 sh) (x2 := .bool ak) (x3 := .string rg) (x4 := .bool false) (b := w.heap.size) ho2 (by omega))
          clear c0 c1 c2 c3 c4 cfz
          obtain ⟨c0, c1, c2, c3, c4, cfz⟩ := hT2.cod.all
          have hz2 := hT2.room
          dsimp only at c0 c1 c2 c3 c4
          clear hT2 hb2 ho ho2
          go_wp2_with fail
          go_meet
          exact ⟨_, hi.out, HO.out⟩
        case rest =>
          obtain ⟨v2, hi, ho⟩ := hcut
          obtain ⟨av2, cap2, rfl⟩ := own_shape ho
          clear c0 c1 c2 c3 c4 cfz d0 d1 d2 d3 d4 dfz hzr
          obtain ⟨c0, c1, c2, c3, c4, hfz⟩ := hi.cod.all
          obtain ⟨d0, d1, d2, d3, d4, hfd⟩ := hi.other.all
          have hzr := hi.room
          dsimp only at c0 c1 c2 c3 c4
          by_cases h60 : q.length = 60
          · have HE := hide (HT.out.trans (by rw [H1.out, if_pos rfl, if_pos h60]) : T = ⟨q, sh, ak, rg, true⟩)
            have hi3 := hide (hi.put (P' := ⟨q, sh, ak, rg, true⟩) 4 (.bool true) (by simp [Pg.cells]) hi.reads hi.far)
            have e60 : ((q.length : Int) == 60) = true := by simp [h60]
            clear hi ho h60 hl HT
            go_wp2
            obtain ⟨f1, f2, f3⟩ := hi3.out.done
            exact bodyPost_ret (res2 Try.results25 rfl rfl f1) rfl ⟨_, by rw [HE.out, H1.out]; rfl, by rw [HE.out]; exact f2, f3⟩
          · have HE := hide (HT.out.trans (by rw [H1.out, if_pos rfl, if_neg h60]) : T = ⟨q ++ [s], sh, ak, rg, false⟩)
            have e60 : ((q.length : Int) == 60) = false := by simp; omega
            have HI := hide hi
            have hroom := hi.room
            clear hi h60 HT
            go_wp2_with (at_builtin; refine wpList_append_own_at _ rfl (.tmp 21) (.tmp 23) 22 rfl (w.heap.size + 2) 9 i0 (.string ⟨#[]⟩) 1 16 Try.underlying22 hi0 hz0 hz1 hzb rfl (by decide) _ q.length (scells q) rfl (ho.alloc _) ⟨wc.heap.size, 0, none⟩ 1 1 (scells [s]) rfl ?a1 ?a2 (scells_one _) ?a3 ?a4 ?a5 ?_)
            case a1 => rfl
            case a2 =>
              intro j u hj
              cases j with
              | zero => simp [scells] at hj; subst hj; exact cell_new (by simp) _ _
              | succ j => simp [scells] at hj
            case a3 => unfold maxLen; omega
            case a4 => omega
            case a5 => simp; omega
            intro v3 w3 ho3 hg3 _ _
            have hbw : Below (wc.heap.size) wc (wc.alloc (.cells #[.string s] 9)) := (Below.refl _ _).alloc (Nat.le_refl _) _
            have ho3' : w3.ownsRow (w.heap.size + 2) 9 1 v3 (q ++ [s]).length (scells (q ++ [s])) := by
              rw [scells_append, List.length_append]; exact ho3
            have hIA := HI.out.behind hbw (Nat.le_refl _)
            have hkeep : ∀ k, k < w.heap.size + 2 → w3.heap[k]? = (wc.alloc (.cells #[.string s] 9)).heap[k]? := fun k hk => hg3.block k (by simp; omega) (fun e => by have := (ho.lt k e.symm).1; omega)
            have hcd : Cod w3 w.heap.size ⟨q, sh, ak, rg, false⟩ (.slice av2 q.length cap2) := by unfold Cod; rw [hkeep _ (by omega)]; exact hIA.cod
            have hcz : Cod w3 (w.heap.size + 1) zp (.slice none 0 0) := by unfold Cod; rw [hkeep _ (by omega)]; exact hIA.other
            have hb3 : Below w.heap.size w w3 := hIA.below.grown hg3 (by simp; omega) (fun k e => by have := (ho.lt k e).1; omega)
            have hi3 : Inv w w.heap.size ⟨q ++ [s], sh, ak, rg, false⟩ v3 (w3.setCell ⟨w.heap.size, 0, none⟩ v3) :=
              ⟨Nat.le_refl _, hb3.setCell (Nat.le_refl _) _, cod_mk (cod_set hcd 0 v3) (by simp [Pg.cells]), cod_ne hcz (by omega) _ _, (reads_own ho3').put (off_far (far_own ho3') (by omega)) _ _, far_own ho3'⟩
            obtain ⟨av3, cap3, rfl⟩ := own_shape ho3
            clear c0 c1 c2 c3 c4 hfz d0 d1 d2 d3 d4 hfd
            obtain ⟨c0, c1, c2, c3, c4, hfz⟩ := hcd.all
            obtain ⟨d0, d1, d2, d3, d4, hfd⟩ := hcz.all
            have hz3 := hcz.lt
            dsimp only at c0 c1 c2 c3 c4
            replace hi3 := hide hi3
            clear ho3 hg3 hbw ho3' hIA hkeep hcd hcz hb3 HI ho
            go_wp2
            obtain ⟨f1, f2, f3⟩ := hi3.out.done
            exact bodyPost_ret (res2 Try.results25 rfl rfl f1) rfl ⟨_, by rw [HE.out, H1.out]; rfl, by rw [HE.out]; exact f2, f3⟩

theorem tellpage_any (P : Pg) (s : ByteArray) (v : Value) (w : World) (hv : Reads w v P.wait) (hs : Small P) :
    Calls Try.prog 25 #[.agg (P.cells v), .string s] w fun e w' => ∃ v', e = .returned (.tuple #[.agg ((tellP P s).cells v'), .int .i64 (refusal P)]) ∧ Reads w' v' (tellP P s).wait ∧ Below w.heap.size w w' := by
  obtain ⟨q, sh, ak, rg, ct⟩ := P
  exact tellpage_aux q sh ak rg ct s v w hv hs
end Go.Proofs.Ytbjcmnemcgadjab
