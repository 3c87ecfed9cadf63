/-
  The contracts of the document's own SendPage and TakePage, and of Send of package pager.
-/
import Derived.Test.YtbjcmnemcgadjabPgRef
namespace Go.Proofs.Ytbjcmnemcgadjab
open Go.RowKit
set_option linter.unusedVariables false

def sendR (P : Pg) (s : ByteArray) : Pg := if refusal P = 0 then sentP P s else P

theorem refusal_bad {P : Pg} (h : goodP P = false) : refusal P = 2 := by simp [refusal, h]
theorem refusal_cut {P : Pg} (h : goodP P = true) (hc : P.cut = true) : refusal P = 6 := by simp [refusal, h, hc]
theorem refusal_ok {P : Pg} (h : goodP P = true) (hc : P.cut = false) : refusal P = 0 := by simp [refusal, h, hc]

set_option maxRecDepth 100000 in
set_option maxHeartbeats 1000000 in
theorem sendpage_any (P : Pg) (s : ByteArray) (v : Value) (w : World) (hv : Reads w v P.wait) (hs : Small P) (hz : s.size ≤ maxLen) :
    Calls Try.prog 30 #[.agg (P.cells v), .string s] w fun e w' => e = .returned (.tuple #[.agg ((sendR P s).cells v), .int .i64 (refusal P)]) ∧ Below w.heap.size w w' := by
  have C0 := hide (fun w' h => goodpage_any P v w' h hs)
  have hv1 := hide hv
  unfold maxLen at hz
  obtain ⟨av, cap, rfl⟩ := hv.shape
  have hT0 := hide (two_new (w := w) (P := P) (v := .slice av P.wait.length cap))
  clear hv hs
  unfold Pg.cells at C0
  have HR : Hid (sendR P s = if refusal P = 0 then sentP P s else P) := hide rfl
  have HG : Hid (goodP P = true → P.ring.size ≤ 700) := hide (fun h => (good_len h).2.1)
  unfold Pg.cells
  go_enter Try.func30, Try.ntmps30
  go_upto_region 1 with fail
  go_cut [8] (fun c wc => c = .bool (!goodP P) ∧ Two w P (.slice av P.wait.length cap) wc)
  case first =>
    go_wp2_with fail
    refine (C0.out _ ((hv1.out.alloc _).alloc _)).mono ?_
    rintro e w1 ⟨rfl, hb1⟩
    have hT1 := hide (hT0.out.behind hb1 (Nat.le_refl _))
    clear hb1
    go_wp2_with fail
    go_meet
    exact ⟨rfl, hT1.out⟩
  case rest =>
    obtain ⟨rfl, hT1⟩ := hcut
    obtain ⟨c0, c1, c2, c3, c4, cfz⟩ := hT1.cod.all
    obtain ⟨d0, d1, d2, d3, d4, dfz⟩ := hT1.other.all
    have hzr := hT1.room
    clear C0 hT0 hv1
    cases hg : goodP P
    · have H1 := hide (refusal_bad hg)
      have H2 := hide (HR.out.trans (by rw [H1.out]; rfl) : sendR P s = P)
      replace hT1 := hide hT1
      clear HR HG hg
      go_wp2
      obtain ⟨f1, f3⟩ := hT1.out.done (P' := P) (v' := .slice av P.wait.length cap)
      exact bodyPost_ret (res2 Try.results30 rfl rfl f1) rfl ⟨by rw [H1.out, H2.out]; rfl, f3⟩
    · have hr7 := HG.out hg
      cases hc : P.cut
      · have H1 := hide (refusal_ok hg hc)
        have H2 := hide (HR.out.trans (by rw [H1.out]; rfl) : sendR P s = sentP P s)
        rw [hc] at c4
        by_cases h7 : 700 < P.ring.size + s.size
        · have H3 := hide (by rw [H2.out]; simp [sentP, h7] : sendR P s = { P with cut := true })
          have hT3 := hide (hT1.put (P' := { P with cut := true }) (v' := .slice av P.wait.length cap) 4 (.bool true) (by simp [Pg.cells]))
          clear HR HG hg hT1 hc
          by_cases h8 : 700 < s.size
          · go_wp2
            obtain ⟨f1, f3⟩ := hT3.out.done (P' := { P with cut := true }) (v' := .slice av P.wait.length cap)
            exact bodyPost_ret (res2 Try.results30 rfl rfl f1) rfl ⟨by rw [H1.out, H3.out]; rfl, f3⟩
          · go_wp2
            obtain ⟨f1, f3⟩ := hT3.out.done (P' := { P with cut := true }) (v' := .slice av P.wait.length cap)
            exact bodyPost_ret (res2 Try.results30 rfl rfl f1) rfl ⟨by rw [H1.out, H3.out]; rfl, f3⟩
        · have H3 := hide (by rw [H2.out]; simp [sentP, h7] : sendR P s = { P with ring := P.ring ++ s })
          have hT3 := hide (hT1.put (P' := { P with ring := P.ring ++ s }) (v' := .slice av P.wait.length cap) 3 (.string (P.ring ++ s)) (by simp [Pg.cells]))
          have h8 : ¬ 700 < s.size := by omega
          have HC := hide hc
          clear HR HG hg hT1 hc
          go_wp2
          obtain ⟨f1, f3⟩ := hT3.out.done (P' := { P with ring := P.ring ++ s }) (v' := .slice av P.wait.length cap)
          simp only [HC.out] at f1 f3
          exact bodyPost_ret (res2 Try.results30 rfl rfl f1) rfl ⟨by rw [H1.out, H3.out]; simp only [Pg.cells, HC.out]; rfl, f3⟩
      · have H1 := hide (refusal_cut hg hc)
        have H2 := hide (HR.out.trans (by rw [H1.out]; rfl) : sendR P s = P)
        rw [hc] at c4
        have HC := hide hc
        replace hT1 := hide hT1
        clear HR HG hg hc
        go_wp2
        obtain ⟨f1, f3⟩ := hT1.out.done (P' := P) (v' := .slice av P.wait.length cap)
        rw [HC.out] at f1 f3
        exact bodyPost_ret (res2 Try.results30 rfl rfl f1) rfl ⟨by rw [H1.out, H2.out]; rfl, f3⟩

theorem take_none (P : Pg) (n : Int) (h : n ≤ 0) : takeP P n = P ∧ P.ring.extract 0 (kOf P n) = ⟨#[]⟩ := by
  have hk : kOf P n = 0 := by unfold kOf; omega
  constructor
  · unfold takeP; rw [hk, ByteArray.extract_zero_size]
  · rw [hk]; apply ByteArray.ext; simp

theorem take_whole (P : Pg) (n : Int) (h : (P.ring.size : Int) ≤ n) : takeP P n = { P with ring := ⟨#[]⟩ } ∧ P.ring.extract 0 (kOf P n) = P.ring := by
  have hk : kOf P n = P.ring.size := by unfold kOf; omega
  constructor
  · unfold takeP; rw [hk]
    have : P.ring.extract P.ring.size P.ring.size = ⟨#[]⟩ := by apply ByteArray.ext; simp
    rw [this]
  · rw [hk, ByteArray.extract_zero_size]

theorem take_some (P : Pg) (n : Nat) (h : n ≤ P.ring.size) : kOf P n = n := by unfold kOf; omega

set_option maxRecDepth 100000 in
set_option maxHeartbeats 1000000 in
theorem takepage_any (P : Pg) (n : Int) (v : Value) (w : World) (hv : Reads w v P.wait) (hs : Small P) :
    Calls Try.prog 32 #[.agg (P.cells v), .int .i64 n] w fun e w' => e = .returned (.tuple #[.agg ((takeP P n).cells v), .string (P.ring.extract 0 (kOf P n))]) ∧ Below w.heap.size w w' := by
  have hr := hs.ring
  obtain ⟨av, cap, rfl⟩ := hv.shape
  have hT0 := hide (two_new (w := w) (P := P) (v := .slice av P.wait.length cap))
  clear hv hs
  by_cases hn : n ≤ 0
  · obtain ⟨e1, e2⟩ := take_none P n hn
    rw [e1, e2]
    clear e1 e2
    unfold Pg.cells
    go_enter Try.func32, Try.ntmps32
    go_upto_region 1 with fail
    go_cut [9] (fun c wc => c = .bool true ∧ Two w P (.slice av P.wait.length cap) wc)
    case first =>
      go_wp2_with fail
      go_meet
      exact ⟨by first | (simp; omega) | simp, hT0.out⟩
    case rest =>
      obtain ⟨rfl, hT1⟩ := hcut
      obtain ⟨c0, c1, c2, c3, c4, cfz⟩ := hT1.cod.all
      obtain ⟨d0, d1, d2, d3, d4, dfz⟩ := hT1.other.all
      have hzr := hT1.room
      replace hT1 := hide hT1
      clear hT0
      go_wp2
      obtain ⟨f1, f3⟩ := hT1.out.done (P' := P) (v' := .slice av P.wait.length cap)
      exact bodyPost_ret (res2 Try.results32 rfl rfl f1) rfl ⟨rfl, f3⟩
  · by_cases hw : (P.ring.size : Int) ≤ n
    · obtain ⟨e1, e2⟩ := take_whole P n hw
      rw [e1, e2]
      clear e1 e2
      unfold Pg.cells
      go_enter Try.func32, Try.ntmps32
      go_upto_region 1 with fail
      go_cut [9] (fun c wc => c = .bool false ∧ Two w P (.slice av P.wait.length cap) wc)
      case first =>
        go_wp2_with fail
        go_meet
        exact ⟨by first | (simp; omega) | simp, hT0.out⟩
      case rest =>
        obtain ⟨rfl, hT1⟩ := hcut
        obtain ⟨c0, c1, c2, c3, c4, cfz⟩ := hT1.cod.all
        obtain ⟨d0, d1, d2, d3, d4, dfz⟩ := hT1.other.all
        have hzr := hT1.room
        have hT3 := hide (hT1.put (P' := { P with ring := ⟨#[]⟩ }) (v' := .slice av P.wait.length cap) 3 (.string ⟨#[]⟩) (by simp [Pg.cells]))
        clear hT0 hT1
        go_wp2
        obtain ⟨f1, f3⟩ := hT3.out.done (P' := { P with ring := ⟨#[]⟩ }) (v' := .slice av P.wait.length cap)
        exact bodyPost_ret (res2 Try.results32 rfl rfl f1) rfl ⟨rfl, f3⟩
    · obtain ⟨k, rfl⟩ : ∃ k : Nat, n = k := ⟨n.toNat, by omega⟩
      have hk := take_some P k (by omega)
      have HT := hide (show takeP P k = { P with ring := P.ring.extract k P.ring.size } by unfold takeP; rw [hk])
      rw [HT.out, hk]
      clear hk
      unfold Pg.cells
      go_enter Try.func32, Try.ntmps32
      go_upto_region 1 with fail
      go_cut [9] (fun c wc => c = .bool false ∧ Two w P (.slice av P.wait.length cap) wc)
      case first =>
        go_wp2_with fail
        go_meet
        exact ⟨by first | (simp; omega) | simp, hT0.out⟩
      case rest =>
        obtain ⟨rfl, hT1⟩ := hcut
        obtain ⟨c0, c1, c2, c3, c4, cfz⟩ := hT1.cod.all
        obtain ⟨d0, d1, d2, d3, d4, dfz⟩ := hT1.other.all
        have hzr := hT1.room
        have hT3 := hide (hT1.put (P' := { P with ring := P.ring.extract k P.ring.size }) (v' := .slice av P.wait.length cap) 3 (.string (P.ring.extract k P.ring.size)) (by simp [Pg.cells]))
        clear hT0 hT1
        go_wp2
        obtain ⟨f1, f3⟩ := hT3.out.done (P' := { P with ring := P.ring.extract k P.ring.size }) (v' := .slice av P.wait.length cap)
        exact bodyPost_ret (res2 Try.results32 rfl rfl f1) rfl ⟨rfl, f3⟩

set_option maxRecDepth 100000 in
set_option maxHeartbeats 1000000 in
theorem send_any (P : Pg) (s : ByteArray) (v : Value) (w : World) (hv : Reads w v P.wait) (hs : Small P) (hz : s.size ≤ maxLen) :
    Calls Try.prog 29 #[.agg (P.cells v), .string s] w fun e w' => ∃ v', e = .returned (.tuple #[.agg ((sendR P s).cells v'), .int .i64 (refusal P)]) ∧ Reads w' v' P.wait ∧ Far (w.heap.size + 2) v' ∧ Below w.heap.size w w' := by
  have C0 := hide (fun w' h => refused_any P v w' h hs)
  have C1 := hide (fun w' h => own_all P v w' h hs)
  have hv1 := hide hv
  have hr := hide hs.ring
  obtain ⟨av, cap, rfl⟩ := hv.shape
  have hT := two_new (w := w) (P := P) (v := .slice av P.wait.length cap)
  clear hv hs
  generalize hR : refusal P = R at C0 ⊢
  have HT : Hid (sendR P s = if R = 0 then sentP P s else P) := hide (by unfold sendR; rw [hR])
  generalize sendR P s = S at HT ⊢
  clear hR
  have HW : ∀ w1, Below (w.heap.size + 2) ((w.alloc (.cells (P.cells (.slice av P.wait.length cap)) 43)).alloc (.cells (zp.cells (.slice none 0 0)) 43)) w1 → Two w P (.slice av P.wait.length cap) w1 ∧ Reads w1 (.slice av P.wait.length cap) P.wait := fun w1 hb => ⟨hT.behind hb (by simp), ((hv1.out.alloc _).alloc _).below hb (by simp)⟩
  replace HW := hide HW
  clear hT
  unfold Pg.cells at C0 C1 ⊢
  go_enter Try.func29, Try.ntmps29
  go_upto_region 2 with (go_at_call 45; refine (C0.out _ ((hv1.out.alloc _).alloc _)).mono ?_; rintro e w1 ⟨rfl, hb1⟩)
  rw [World.size_alloc, World.size_alloc] at hb1
  obtain ⟨hT1, hv2⟩ := HW.out w1 hb1
  obtain ⟨c0, c1, c2, c3, c4, hfz⟩ := hT1.cod.all
  have hb1' := hide hb1
  replace hT1 := hide hT1
  replace hv2 := hide hv2
  clear hb1
  go_cut [] (fun wc => ∃ v2, Inv w w.heap.size P v2 wc)
  case first =>
    go_wp2_with fail
    refine (C1.out _ hv2.out).mono ?_
    rintro e w2 ⟨v2, rfl, ho, hb2⟩
    have hrm := hT1.out.room
    have hT2 := hT1.out.behind hb2 (Nat.le_refl _)
    have hi := hide (two_lay (P' := P) hT2 (reads_own ho) ((far_own ho).mono (by omega)))
    obtain ⟨av2, cap2, rfl⟩ := own_shape ho
    clear c0 c1 c2 c3 c4 hfz
    obtain ⟨c0, c1, c2, c3, c4, hfz⟩ := hT2.cod.all
    have hzr := hT2.room
    clear hT2 hb2 ho
    go_wp2_with fail
    go_meet
    exact ⟨_, hi.out⟩
  case rest =>
    obtain ⟨v2, hi⟩ := hcut
    have hi0 := hi
    obtain ⟨av2, cap2, rfl⟩ := hi0.reads.shape
    clear c0 c1 c2 c3 c4 hfz hi0
    obtain ⟨c0, c1, c2, c3, c4, hfz⟩ := hi.cod.all
    obtain ⟨d0, d1, d2, d3, d4, hfd⟩ := hi.other.all
    have hzr := hi.room
    replace hi := hide hi
    by_cases hR0 : R = 0
    · subst hR0
      have HE := hide (HT.out.trans (by simp) : S = sentP P s)
      have CS : Hid (∀ w', Calls Try.prog 48 #[.agg (P.cells (.slice av2 P.wait.length cap2)), .string s] w' fun e w'' => e = .returned (.agg (S.cells (.slice av2 P.wait.length cap2))) ∧ Below w'.heap.size w' w'') := hide (fun w' => by rw [HE.out]; exact sent_any P s av2 P.wait.length cap2 w' hr.out hz)
      unfold Pg.cells at CS
      clear HT C0 C1
      go_wp2_with fail
      refine (CS.out _).mono ?_
      rintro e w3 ⟨rfl, hb3⟩
      have hi3 := hi.out.behind hb3 (Nat.le_refl _)
      clear c0 c1 c2 c3 c4 hfz d0 d1 d2 d3 d4 hfd hb3
      obtain ⟨d0, d1, d2, d3, d4, hfd⟩ := hi3.other.all
      have hz3 := hi3.room
      have F1 := hide (cod_five (P := S) (v := .slice av2 P.wait.length cap2) hi3.other)
      have F2 := hide (reads_five (b := w.heap.size + 1) (x0 := .slice av2 P.wait.length cap2) (x1 := .int .i64 S.shown) (x2 := .bool S.asking) (x3 := .string S.ring) (x4 := .bool S.cut) hi3.reads (off_far hi3.far (by omega)))
      have F3 := hide (below_five (b := w.heap.size + 1) (x0 := .slice av2 P.wait.length cap2) (x1 := .int .i64 S.shown) (x2 := .bool S.asking) (x3 := .string S.ring) (x4 := .bool S.cut) hi3.below (by omega))
      have F4 := hide hi3.far
      clear hi3 hi
      go_wp2
      exact bodyPost_ret (res2 Try.results29 rfl rfl F1.out) rfl ⟨_, rfl, F2.out, F4.out, F3.out⟩
    · have HE := hide (HT.out.trans (by simp [hR0]) : S = P)
      have hRb : (R == 0) = false := by simp [hR0]
      clear HT C0 C1
      go_wp2
      obtain ⟨f1, f2, f3⟩ := hi.out.done
      exact bodyPost_ret (res2 Try.results29 rfl rfl f1) rfl ⟨_, by rw [HE.out]; rfl, f2, hi.out.far, f3⟩
end Go.Proofs.Ytbjcmnemcgadjab
