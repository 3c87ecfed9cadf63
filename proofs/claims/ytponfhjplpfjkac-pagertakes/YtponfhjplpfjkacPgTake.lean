/-
  The contracts of Turn, Take, sent and asked of package pager.
-/
import Derived.Test.YtponfhjplpfjkacPgLeaf
import Derived.Deep.DeepCutAuto
namespace Go.Proofs.Ytponfhjplpfjkac
open Go.RowKit
set_option linter.unusedVariables false

theorem inv_own {w w2 : World} {P : Pg} {v v2 : Value} (hb : Below (w.heap.size + 2) ((w.alloc (.cells (P.cells v) 25)).alloc (.cells (zp.cells (.slice none 0 0)) 25)) w2)
    (ho : Reads w2 v2 P.wait) (hf : Far (w.heap.size + 2) v2) : Inv w w.heap.size P v2 (((((w2.setCell ⟨w.heap.size, 0, none⟩ v2).setCell ⟨w.heap.size, 1, none⟩ (.int .i64 P.shown)).setCell ⟨w.heap.size, 2, none⟩ (.bool P.asking)).setCell ⟨w.heap.size, 3, none⟩ (.string P.ring)).setCell ⟨w.heap.size, 4, none⟩ (.bool P.cut)) := by
  obtain ⟨k1, k2⟩ := cod_two (w := w) (P := P) (v := v)
  have k1' := cod_behind k1 hb (by simp)
  have k2' := cod_behind k2 hb (by simp)
  exact ⟨Nat.le_refl _, below_five (below_two.trans (hb.mono (by omega))) (Nat.le_refl _), cod_five k1', cod_five_ne k2' (by omega), reads_five ho (off_far hf (by omega)), hf⟩


def turnP (P : Pg) : Pg := { P with asking := false, shown := 0 }

set_option maxRecDepth 100000 in
set_option maxHeartbeats 400000 in
theorem turn_any (P : Pg) (v : Value) (w : World) (hv : Reads w v P.wait) (hs : Small P) : Calls Try.prog 12 #[.agg (P.cells v)] w fun e w' => ∃ v', e = .returned (.agg ((turnP P).cells v')) ∧ Reads w' v' P.wait ∧ Far (w.heap.size + 2) v' ∧ Below w.heap.size w w' := by
  have C1 := hide (fun w' h => own_any P v w' h hs)
  have hv1 := hide hv
  obtain ⟨av, cap, rfl⟩ := hv.shape
  clear hv hs
  unfold Pg.cells at C1 ⊢
  go_enter Try.func12, Try.ntmps12
  go_upto_region 1 with fail
  go_cut [] (fun wc => ∃ v2, Inv w w.heap.size P v2 wc)
  case first =>
    go_wp2_with fail
    refine (C1.out _ ((hv1.out.alloc _).alloc _)).mono ?_
    rintro e w2 ⟨v2, rfl, ho, hf, hb2⟩
    rw [World.size_alloc, World.size_alloc] at hf hb2
    have hi := inv_own (P := P) (v := .slice av P.wait.length cap) hb2 ho (hf.mono (by omega))
    obtain ⟨av2, cap2, rfl⟩ := ho.shape
    obtain ⟨k1, k2⟩ := cod_two (w := w) (P := P) (v := .slice av P.wait.length cap)
    obtain ⟨c0, c1, c2, c3, c4, hfz⟩ := (cod_behind k1 hb2 (by simp)).all
    have hz2 := (cod_behind k2 hb2 (by simp)).lt
    replace hi := hide hi
    clear k1 k2 hb2 ho hf
    go_wp2_with fail
    go_meet
    exact ⟨_, hi.out⟩
  case rest =>
    obtain ⟨v2, hi⟩ := hcut
    obtain ⟨av2, cap2, rfl⟩ := hi.reads.shape
    have hi2 := hi.put (P' := { P with asking := false }) 2 (.bool false) (by simp [Pg.cells]) hi.reads hi.far
    have hi3 := hi2.put (P' := turnP P) 1 (.int .i64 0) (by simp [Pg.cells, turnP]) hi2.reads hi2.far
    obtain ⟨c0, c1, c2, c3, c4, hfz⟩ := hi.cod.all
    obtain ⟨d0, d1, d2, d3, d4, hfd⟩ := hi.other.all
    have hz2 := hi.room
    replace hi3 := hide hi3
    clear hi hi2
    go_wp2
    obtain ⟨f1, f2, f3⟩ := hi3.out.done
    exact bodyPost_ret (res1 Try.results12 rfl f1) rfl ⟨_, rfl, f2, hi3.out.far, f3⟩

def kOf (P : Pg) (n : Int) : Nat := (min (max n 0) P.ring.size).toNat
def takeP (P : Pg) (n : Int) : Pg := { P with ring := P.ring.extract (kOf P n) P.ring.size }

theorem minmax (P : Pg) (n : Int) : ∃ (k : Nat) (m : Int), (∀ (w : World) ts t, (Builtin.max_ ts t #[.int .i64 n, .int .i64 0]).run Try.prog w = .ok (.int .i64 m) w) ∧
    (∀ (w : World) ts t, (Builtin.min_ ts t #[.int .i64 m, .int .i64 (P.ring.size : Int)]).run Try.prog w = .ok (.int .i64 (k : Int)) w) ∧ k ≤ P.ring.size ∧ Hid (kOf P n = k) := by
  refine ⟨kOf P n, max n 0, fun w ts t => ?_, fun w ts t => ?_, by unfold kOf; omega, hide rfl⟩
  · rw [run_max_int2]; congr 2; split <;> omega
  · rw [run_min_int2]; congr 2; unfold kOf; split <;> omega

set_option maxRecDepth 100000 in
set_option maxHeartbeats 400000 in
theorem take_any (P : Pg) (n : Int) (v : Value) (w : World) (hv : Reads w v P.wait) (hs : Small P) : Calls Try.prog 11 #[.agg (P.cells v), .int .i64 n] w fun e w' => ∃ v', e = .returned (.tuple #[.agg ((takeP P n).cells v'), .string (P.ring.extract 0 (kOf P n))]) ∧ Reads w' v' P.wait ∧ Far (w.heap.size + 2) v' ∧ Below w.heap.size w w' := by
  have C1 := hide (fun w' h => own_any P v w' h hs)
  have hv1 := hide hv
  have hr := hs.ring
  obtain ⟨k, m, hmx, hmn, hkk, HK⟩ := minmax P n
  have HT := hide (show takeP P n = { P with ring := P.ring.extract k P.ring.size } by unfold takeP; rw [HK.out])
  rw [HK.out, HT.out]
  obtain ⟨av, cap, rfl⟩ := hv.shape
  clear hv hs
  unfold Pg.cells at C1 ⊢
  go_enter Try.func11, Try.ntmps11
  go_upto_region 1 with fail
  go_cut [] (fun wc => ∃ v2, Inv w w.heap.size P v2 wc)
  case first =>
    go_wp2_with fail
    refine (C1.out _ ((hv1.out.alloc _).alloc _)).mono ?_
    rintro e w2 ⟨v2, rfl, ho, hf, hb2⟩
    rw [World.size_alloc, World.size_alloc] at hf hb2
    have hi := inv_own (P := P) (v := .slice av P.wait.length cap) hb2 ho (hf.mono (by omega))
    obtain ⟨av2, cap2, rfl⟩ := ho.shape
    obtain ⟨k1, k2⟩ := cod_two (w := w) (P := P) (v := .slice av P.wait.length cap)
    obtain ⟨c0, c1, c2, c3, c4, hfz⟩ := (cod_behind k1 hb2 (by simp)).all
    have hz2 := (cod_behind k2 hb2 (by simp)).lt
    replace hi := hide hi
    clear k1 k2 hb2 ho hf
    go_wp2_with fail
    go_meet
    exact ⟨_, hi.out⟩
  case rest =>
    obtain ⟨v2, hi⟩ := hcut
    obtain ⟨av2, cap2, rfl⟩ := hi.reads.shape
    have hi3 := hi.put (P' := { P with ring := P.ring.extract k P.ring.size }) 3 (.string (P.ring.extract k P.ring.size)) (by simp [Pg.cells]) hi.reads hi.far
    obtain ⟨c0, c1, c2, c3, c4, hfz⟩ := hi.cod.all
    obtain ⟨d0, d1, d2, d3, d4, hfd⟩ := hi.other.all
    have hz2 := hi.room
    replace hi3 := hide hi3
    clear hi
    go_wp2
    obtain ⟨f1, f2, f3⟩ := hi3.out.done
    exact bodyPost_ret (res2 Try.results11 rfl rfl f1) rfl ⟨_, rfl, f2, hi3.out.far, f3⟩

/-- A page laid beside a page of nothing, its list anywhere. -/
structure Two (w : World) (P : Pg) (v : Value) (wr : World) : Prop where
  below : Below w.heap.size w wr
  cod : Cod wr w.heap.size P v
  other : Cod wr (w.heap.size + 1) zp (.slice none 0 0)

theorem two_new {w : World} {P : Pg} {v : Value} : Two w P v ((w.alloc (.cells (P.cells v) 25)).alloc (.cells (zp.cells (.slice none 0 0)) 25)) := ⟨below_two, cod_two.1, cod_two.2⟩

section
variable {w wr w' : World} {P P' : Pg} {v v' : Value}
theorem Two.room (h : Two w P v wr) : w.heap.size + 1 < wr.heap.size := h.other.lt

theorem Two.put (h : Two w P v wr) (f : Nat) (u : Value) (hc : (P.cells v).setIfInBounds f u = P'.cells v') : Two w P' v' (wr.setCell ⟨w.heap.size, f, none⟩ u) :=
  ⟨h.below.setCell (Nat.le_refl _) _, cod_mk (cod_set h.cod f u) hc, cod_ne h.other (by omega) _ _⟩

theorem Two.behind {B : Nat} (h : Two w P v wr) (hb : Below B wr w') (hB : wr.heap.size ≤ B) : Two w P v w' :=
  ⟨h.below.trans (hb.mono (by have := h.below.size; omega)), cod_behind h.cod hb hB, cod_behind h.other hb hB⟩

theorem Two.done (h : Two w P v wr) :
    Cod (((((wr.setCell ⟨w.heap.size + 1, 0, none⟩ v').setCell ⟨w.heap.size + 1, 1, none⟩ (.int .i64 P'.shown)).setCell ⟨w.heap.size + 1, 2, none⟩ (.bool P'.asking)).setCell ⟨w.heap.size + 1, 3, none⟩ (.string P'.ring)).setCell ⟨w.heap.size + 1, 4, none⟩ (.bool P'.cut)) (w.heap.size + 1) P' v' ∧
    Below w.heap.size w (((((wr.setCell ⟨w.heap.size + 1, 0, none⟩ v').setCell ⟨w.heap.size + 1, 1, none⟩ (.int .i64 P'.shown)).setCell ⟨w.heap.size + 1, 2, none⟩ (.bool P'.asking)).setCell ⟨w.heap.size + 1, 3, none⟩ (.string P'.ring)).setCell ⟨w.heap.size + 1, 4, none⟩ (.bool P'.cut)) :=
  ⟨cod_five h.other, below_five h.below (by omega)⟩
end

set_option maxRecDepth 100000 in
set_option maxHeartbeats 400000 in
theorem sent_any (P : Pg) (s : ByteArray) (av : Option Addr) (n cap : Nat) (w : World) (hs : P.ring.size ≤ 140737488355328) (hs' : s.size ≤ maxLen) : Calls Try.prog 34 #[.agg (P.cells (.slice av n cap)), .string s] w fun e w' => e = .returned (.agg ((sentP P s).cells (.slice av n cap))) ∧ Below w.heap.size w w' := by
  unfold maxLen at hs'
  by_cases h : 700 < P.ring.size + s.size
  · have HV := hide (by simp [sentP, h] : sentP P s = { P with cut := true })
    rw [HV.out]
    have hT := hide (two_new (w := w) (P := P) (v := .slice av n cap))
    unfold Pg.cells
    go_enter Try.func34, Try.ntmps34
    go_upto_region 1 with fail
    go_cut [11] (fun c wc => c = .bool true ∧ Two w P (.slice av n cap) wc)
    case first =>
      go_wp2_with fail
      go_meet
      exact ⟨by simp; omega, hT.out⟩
    case rest =>
      obtain ⟨rfl, hi⟩ := hcut
      have hi3 := hi.put (P' := { P with cut := true }) (v' := .slice av n cap) 4 (.bool true) (by simp [Pg.cells])
      obtain ⟨c0, c1, c2, c3, c4, hfz⟩ := hi.cod.all
      obtain ⟨d0, d1, d2, d3, d4, hfd⟩ := hi.other.all
      have hz2 := hi.room
      replace hi3 := hide hi3
      clear hi hT
      go_wp2
      obtain ⟨f1, f3⟩ := hi3.out.done (P' := { P with cut := true }) (v' := .slice av n cap)
      exact bodyPost_ret (res1 Try.results34 rfl f1) rfl ⟨rfl, f3⟩
  · have HV := hide (by simp [sentP, h] : sentP P s = { P with ring := P.ring ++ s })
    rw [HV.out]
    have hT := hide (two_new (w := w) (P := P) (v := .slice av n cap))
    unfold Pg.cells
    go_enter Try.func34, Try.ntmps34
    go_upto_region 1 with fail
    go_cut [11] (fun c wc => c = .bool false ∧ Two w P (.slice av n cap) wc)
    case first =>
      go_wp2_with fail
      go_meet
      exact ⟨by simp; omega, hT.out⟩
    case rest =>
      obtain ⟨rfl, hi⟩ := hcut
      have hi3 := hi.put (P' := { P with ring := P.ring ++ s }) (v' := .slice av n cap) 3 (.string (P.ring ++ s)) (by simp [Pg.cells])
      obtain ⟨c0, c1, c2, c3, c4, hfz⟩ := hi.cod.all
      obtain ⟨d0, d1, d2, d3, d4, hfd⟩ := hi.other.all
      have hz2 := hi.room
      replace hi3 := hide hi3
      clear hi hT
      go_wp2
      obtain ⟨f1, f3⟩ := hi3.out.done (P' := { P with ring := P.ring ++ s }) (v' := .slice av n cap)
      exact bodyPost_ret (res1 Try.results34 rfl f1) rfl ⟨rfl, f3⟩

def moreB : ByteArray := ⟨#[45, 45, 32, 109, 111, 114, 101, 32, 45, 45, 13, 10]⟩
def askedP (P : Pg) : Pg := sentP { P with asking := true } moreB

set_option maxRecDepth 100000 in
set_option maxHeartbeats 400000 in
theorem asked_any (P : Pg) (av : Option Addr) (n cap : Nat) (w : World) (hs : P.ring.size ≤ 140737488355328) : Calls Try.prog 21 #[.agg (P.cells (.slice av n cap))] w fun e w' => e = .returned (.agg ((askedP P).cells (.slice av n cap))) ∧ Below w.heap.size w w' := by
  have C1 : Hid (∀ w', Calls Try.prog 34 #[.agg (({ P with asking := true } : Pg).cells (.slice av n cap)), .string moreB] w' fun e w'' => e = .returned (.agg ((askedP P).cells (.slice av n cap))) ∧ Below w'.heap.size w' w'') := hide (fun w' => sent_any { P with asking := true } moreB av n cap w' hs (by decide))
  have hT := hide (two_new (w := w) (P := P) (v := .slice av n cap))
  generalize askedP P = R at C1 ⊢
  unfold Pg.cells moreB at C1
  unfold Pg.cells
  go_enter Try.func21, Try.ntmps21
  go_upto_region 1 with fail
  go_cut [] (fun wc => Two w { P with asking := true } (.slice av n cap) wc)
  case first =>
    go_wp2_with fail
    go_meet
    exact two_new (P := { P with asking := true })
  case rest =>
    obtain ⟨c0, c1, c2, c3, c4, hfz⟩ := hcut.cod.all
    have hi := hide hcut
    clear hcut hT
    simp only at c0 c1 c2 c3 c4
    go_wp2_with fail
    refine (C1.out _).mono ?_
    rintro e w2 ⟨rfl, hb2⟩
    have hi2 := hi.out.behind hb2 (Nat.le_refl _)
    clear c0 c1 c2 c3 c4 hfz
    obtain ⟨d0, d1, d2, d3, d4, hfd⟩ := hi2.other.all
    have hz2 := hi2.room
    replace hi2 := hide hi2
    clear hi hb2
    go_wp2
    obtain ⟨f1, f3⟩ := hi2.out.done (P' := R) (v' := .slice av n cap)
    exact bodyPost_ret (res1 Try.results21 rfl f1) rfl ⟨rfl, f3⟩
end Go.Proofs.Ytponfhjplpfjkac
