/-
  Things are parted with: the contract.
-/
import Derived.Test.YtaifjndkgfffpaaDoorMgBC
import Derived.Test.YtaifjndkgfffpaaDoorMgAT
import Derived.Test.YtaifjndkgfffpaaDoorMgAU
namespace Go.Proofs.YtaifjndkgfffpaaDoor
open Go.RowKit
set_option linter.unusedVariables false

def notHadS : ByteArray := ⟨#[89, 111, 117, 32, 104, 97, 118, 101, 32, 110, 111, 32, 115, 117, 99, 104, 32, 116, 104, 105, 110, 103, 46]⟩
def wornS : ByteArray := ⟨#[89, 111, 117, 32, 119, 101, 97, 114, 32, 105, 116, 46]⟩
def cannotS : ByteArray := ⟨#[84, 104, 97, 116, 32, 99, 97, 110, 110, 111, 116, 32, 98, 101, 46]⟩

/-- The whole order is read, wherever the walk stands. -/
theorem exec_order {a : Act} {op : Oper} {w : World} (x : Operand) (ho : op.op = .load 47 x) (b : Nat) (hx : a.eval x = .pointer (some ⟨b, 0, none⟩)) {O : Od} (hc : w.heap[b]? = some (.cells O.cells 47 (0, 0))) : (execOp a.eval op).run Tryd.prog w = .ok (.value (.agg O.cells)) w := by
  have hl : (Instr.loadAt 47 (.pointer (some ⟨b, 0, none⟩))).run Tryd.prog w = .ok (.agg O.cells) w := by
    simp only [Instr.loadAt, Instr.sureAddr, Sem.run_bind, Sem.run_pure, Result.andThen_ok]
    exact run_loadVar_row w b 47 47 O.cells (0, 0) _ hc Tryd.underlying47 rfl Tryd.sizeOrder
  unfold execOp
  simp only [ho, hx, Sem.run_bind, hl, Result.andThen_ok, Sem.run_pure]

/-- One thing is parted with. -/
def pstep (b : Nat) (wh loc : Int) (E : Ev) (s : Ld × List Ev) (i : Int) : Ld × List Ev :=
  if s.1.kind i.toNat = 2 ∧ s.1.on i.toNat = true then (s.1, s.2 ++ [tellE s.1 b wornS])
  else if wh = 2 ∧ i ∈ wayL s.1 loc then (s.1, s.2 ++ [tellE s.1 b cannotS])
  else (moveL s.1 i.toNat wh loc, s.2 ++ [allE (moveL s.1 i.toNat wh loc) { E with thing := s.1.tname i.toNat }])
def partS (L : Ld) (b : Nat) (wh loc : Int) (E : Ev) (q : List Int) : Ld × List Ev := q.foldl (pstep b wh loc E) (L, [])
theorem part_len (L : Ld) (b : Nat) (wh loc : Int) (E : Ev) (q : List Int) : (partS L b wh loc E q).2.length = q.length := by
  unfold partS
  have : ∀ (q : List Int) (s : Ld × List Ev), (q.foldl (pstep b wh loc E) s).2.length = s.2.length + q.length := by
    intro q
    induction q with
    | nil => intro s; simp
    | cons a q ih =>
      intro s
      rw [List.foldl_cons, ih]
      unfold pstep
      split
      · simp; omega
      · split <;> (simp; omega)
  rw [this]; simp
theorem part_next (L : Ld) (b : Nat) (wh loc : Int) (E : Ev) {q : List Int} {k : Nat} (hk : k < q.length) : partS L b wh loc E (q.take (k + 1)) = pstep b wh loc E (partS L b wh loc E (q.take k)) (q.getD k 0) := by
  unfold partS; rw [take_snoc hk, List.foldl_append]; rfl
def hadL (L : Ld) (b : Nat) (O : Od) : List Int := meantL L (handL L b) O.nth O.all O.name
def partL (L : Ld) (b : Nat) (O : Od) (wh loc : Int) (E : Ev) : Ld := (partS L b wh loc E (hadL L b O)).1
def partE (L : Ld) (b : Nat) (O : Od) (wh loc : Int) (E : Ev) : List Ev := sigE L b (hadL L b O) notHadS ++ (partS L b wh loc E (hadL L b O)).2
theorem had_lt {L : Ld} {b : Nat} {O : Od} {x : Int} (h : x ∈ hadL L b O) : ∃ i : Nat, x = (i : Int) ∧ i < 9 := hand_lt (meant_mem h)
theorem had_len (L : Ld) (b : Nat) (O : Od) : (hadL L b O).length ≤ 9 := by
  have h0 := hand_len L b
  have h1 := List.length_filter_le (fits L O.name) (handL L b)
  unfold hadL meantL nthL
  split
  · omega
  · split <;> simp

set_option maxRecDepth 100000 in
set_option maxHeartbeats 4000000 in
theorem rpart_any {w0 : World} {L : Ld} {Es : List Ev} {w : World} (hS : Sn 62 [] w0 L Es w) (b : Nat) (hb : b < 6) (O : Od) (hn0 : -9223372036854775808 ≤ O.nth) (hn1 : O.nth ≤ 9223372036854775807) (wh loc : Int) (E : Ev) (hlen : Es.length ≤ 900000) :
    Calls Tryd.prog 58 #[.pointer (some ⟨w0.heap.size, 0, none⟩), .int .i64 (b : Int), .agg O.cells, .int .i64 wh, .int .i64 loc, .agg E.cells] w fun e w' => e = .returned (.tuple #[]) ∧ Sn 62 [] w0 (partL L b O wh loc E) (Es ++ partE L b O wh loc E) w' ∧ Stp w0.heap.size 165 w w' := by
  have hl := hS.lt
  have B0 : Hid (Below w.heap.size w ((w.alloc (.cells O.cells 47)).alloc (.cells E.cells 52)).drew) := ((below_box w (.cells O.cells 47)).alloc (by simp) (.cells E.cells 52)).trans ⟨rfl, rfl, rfl, Nat.le_refl _, fun _ _ => rfl⟩
  have K0 := hide (hS.kept (k := w.heap.size + 1) B0.out (by omega) (by simp [World.drew]))
  have S0 := hide (hS.below B0.out)
  have T0 := hide (Stp.below (o := 165) B0.out hl)
  have C0 : Hid (Cev ((w.alloc (.cells O.cells 47)).alloc (.cells E.cells 52)).drew (w.heap.size + 1) E) := by
    have h := cev_new (w.alloc (.cells O.cells 47)) E
    have e : (w.alloc (.cells O.cells 47)).heap.size = w.heap.size + 1 := by simp
    rw [e] at h
    exact h
  have G0 : Hid (((w.alloc (.cells O.cells 47)).alloc (.cells E.cells 52)).drew.heap[w.heap.size]? = some (.cells O.cells 47 (0, 0))) := by
    show ((w.alloc (.cells O.cells 47)).alloc (.cells E.cells 52)).heap[w.heap.size]? = _
    rw [((Below.refl (w.alloc (.cells O.cells 47)).heap.size (w.alloc (.cells O.cells 47))).alloc (Nat.le_refl _) (.cells E.cells 52)).block _ (by simp)]
    exact heap_alloc_new w _
  have HZ : w.heap.size + 1 < ((w.alloc (.cells O.cells 47)).alloc (.cells E.cells 52)).drew.heap.size := by simp [World.drew]
  clear hS B0
  go_enter Tryd.func58, Tryd.ntmps58
  go_wp2_with fail
  refine wp_region_held (S := fun W => W.heap[w.heap.size]? = some (.cells O.cells 47 (0, 0))) (by kernel_rfl) ?_
  change wpAnyH _ _ _ _ _ _ _ _ ((w.alloc (.cells O.cells 47)).alloc (.cells E.cells 52)).drew
  generalize ((w.alloc (.cells O.cells 47)).alloc (.cells E.cells 52)).drew = W0 at K0 S0 T0 C0 G0 HZ ⊢
  refine take_at (i := 0) (d := some 16) (fuel := 6) (v := ?_) rfl rfl (by kernel_rfl) (by kernel_rfl) (by kernel_rfl) (fun _ _ _ h => h) (Or.inl ⟨by rfl, ?_⟩) G0.out ?_
  rotate_left
  · intro W hW
    go_simp
    try with_reducible rfl
  simp only [Act.put, List.setIfInBounds_toArray, List.set]
  refine take_at (i := 1) (d := some 17) (fuel := 5) (v := ?_) rfl rfl (by kernel_rfl) (by kernel_rfl) (by kernel_rfl) (fun _ _ _ h => h) (Or.inl ⟨by rfl, ?_⟩) G0.out ?_
  rotate_left
  · intro W hW
    go_simp
    try with_reducible rfl
  simp only [Act.put, List.setIfInBounds_toArray, List.set]
  refine take_at (i := 2) (d := some 18) (fuel := 4) (v := ?_) rfl rfl (by kernel_rfl) (by kernel_rfl) (by kernel_rfl) (fun _ _ _ h => h) (Or.inl ⟨by rfl, ?_⟩) G0.out ?_
  rotate_left
  · intro W hW
    go_simp
    try with_reducible rfl
  simp only [Act.put, List.setIfInBounds_toArray, List.set]
  refine take_at (i := 4) (d := some 20) (fuel := 3) (v := .agg O.cells) rfl rfl (by kernel_rfl) (by kernel_rfl) (by kernel_rfl) (fun _ _ _ h => h) (Or.inl ⟨by rfl, fun W hW => exec_order (.tmp 8) rfl _ rfl hW⟩) G0.out ?_
  simp only [Act.put, List.setIfInBounds_toArray, List.set]
  refine wpAnyH_all (fuel := 2) (rs := [3]) (by kernel_rfl) (by simp) ?_
  intro i hi
  obtain rfl : i = 3 := by simpa using hi
  clear hi
  refine call_at (d := some 19) rfl rfl (by rfl) 68 #[.pointer (some ⟨w0.heap.size, 0, none⟩), .int .i64 (b : Int)] (by kernel_rfl) ?_
  refine (rhand_any S0.out b).mono ?_
  rintro e w1 ⟨v, rfl, ho, hb1⟩
  have S1 := hide (S0.out.below hb1)
  have P1 := hide (S0.out.stp hb1 165)
  have N1 := hide (numk_own S0.out hb1 ho)
  have G1 := hide (show w1.heap[w.heap.size]? = some (.cells O.cells 47 (0, 0)) by rw [hb1.block _ (by omega)]; exact G0.out)
  have K1 := hide (P1.out.kept K0.out).1
  have C1 := hide (K0.out.cev P1.out C0.out)
  have T1 := hide (T0.out.trans P1.out)
  obtain ⟨av, cap, rfl⟩ := ho.shape
  clear ho hb1 P1 S0 T0 C0 G0 K0
  have hsl := hand_len L b
  refine ⟨_, rfl, G1.out, ?_⟩
  simp only [Act.put, List.setIfInBounds_toArray, List.set]
  refine wpAnyH_all (fuel := 1) (rs := [5]) (by kernel_rfl) (by simp) ?_
  intro i hi
  obtain rfl : i = 5 := by simpa using hi
  clear hi
  refine call_at (d := some 21) rfl rfl (by rfl) 86 #[.pointer (some ⟨w0.heap.size, 0, none⟩), .slice av (handL L b).length cap, .agg O.cells] (by kernel_rfl) ?_
  refine (meant_any S1.out N1.out (fun x hx => hand_lt hx) (by omega) O hn0 hn1).mono ?_
  rintro e w2 ⟨v', rfl, hK, hb2⟩
  have S2 := hide (S1.out.below hb2)
  have P2 := hide (S1.out.stp hb2 165)
  have N2 := hide hK
  have G2 := hide (show w2.heap[w.heap.size]? = some (.cells O.cells 47 (0, 0)) by rw [hb2.block _ ((Array.getElem?_eq_some_iff.1 G1.out).1)]; exact G1.out)
  have K2 := hide (P2.out.kept K1.out).1
  have C2 := hide (K1.out.cev P2.out C1.out)
  have T2 := hide (T1.out.trans P2.out)
  obtain ⟨av2, cap2, rfl⟩ := hK.shape
  clear hK hb2 P2 S1 T1 C1 G1 K1 N1 hsl
  refine ⟨_, rfl, G2.out, ?_⟩
  simp only [Act.put, List.setIfInBounds_toArray, List.set]
  refine take_at (i := 6) (d := some 12) (fuel := 0) (v := ?_) rfl rfl (by kernel_rfl) (by kernel_rfl) (by kernel_rfl) (fun _ _ _ h => h) (Or.inl ⟨by rfl, ?_⟩) G2.out ?_
  rotate_left
  · intro W hW
    go_simp
    try with_reducible rfl
  simp only [Act.put, List.setIfInBounds_toArray, List.set]
  refine wpAnyH_done (by kernel_rfl) ?_ _
  have HM := hide (fun x (hx : x ∈ hadL L b O) => had_lt hx)
  have hml := had_len L b O
  have HL := hide (show partL L b O wh loc E = (partS L b wh loc E (hadL L b O)).1 from rfl)
  have HE := hide (show partE L b O wh loc E = sigE L b (hadL L b O) notHadS ++ (partS L b wh loc E (hadL L b O)).2 from rfl)
  change Hid (NumK _ _ _ (.slice av2 (hadL L b O).length cap2) (hadL L b O)) at N2
  rw [show meantL L (handL L b) O.nth O.all O.name = hadL L b O from rfl]
  clear G2
  generalize hadL L b O = q at *
  generalize hn : q.length = n at *
  have HNn := hide hn
  clear hn
  cases hz : decide (n = 0) with
  | true =>
    have hz0 : n = 0 := by simpa using hz
    subst hz0
    have hq0 : q = [] := List.eq_nil_of_length_eq_zero HNn.out
    have HE2 := hide (show partE L b O wh loc E = [tellE L b notHadS] by rw [HE.out, hq0]; rfl)
    have HL2 := hide (show partL L b O wh loc E = L by rw [HL.out, hq0]; rfl)
    clear hz hq0
    go_wp2_with fail
    refine (rtell_any S2.out b hb _ (by omega)).mono ?_
    rintro e w3 ⟨rfl, S3h, T3h⟩
    have S3 := hide S3h
    have T3 := hide (T2.out.trans T3h)
    clear S3h T3h S2 T2 N2
    go_wp2_with fail
    go_loopw [30] (fun c wr => c = .int .i64 0 ∧ wr = w3) (fun _ _ => 0)
    case atStart => exact ⟨rfl, rfl⟩
    case round =>
      obtain ⟨rfl, rfl⟩ := hrel
      go_wp2
      go_end0
      exact ⟨rfl, by rw [HL2.out, HE2.out]; exact S3.out, T3.out⟩
  | false =>
    have hz0 : n ≠ 0 := by simpa using hz
    have hzi : ((n : Int) == 0) = false := by simp; omega
    have hq0 : q ≠ [] := fun e => by have := HNn.out; rw [e] at this; simp at this; omega
    have HE2 := hide (show partE L b O wh loc E = (partS L b wh loc E q).2 by rw [HE.out]; unfold sigE; rw [if_neg hq0]; rfl)
    clear hz hq0
    go_wp2_with fail
    go_loopw [30] (fun c wr => ∃ k : Nat, k ≤ n ∧ c = .int .i64 k ∧ Sn 62 [] w0 (partS L b wh loc E (q.take k)).1 (Es ++ (partS L b wh loc E (q.take k)).2) wr ∧ Stp w0.heap.size 165 w wr ∧ NumK w0.heap.size 165 wr (.slice av2 n cap2) q ∧ Kept w0.heap.size 165 wr (w.heap.size + 1) ∧ Cev wr (w.heap.size + 1) E) (fun c _ => n - (intOf c).toNat)
    case atStart => exact ⟨0, by omega, rfl, by simpa [partS] using S2.out, T2.out, N2.out, K2.out, C2.out⟩
    case round =>
      obtain ⟨k, hle, rfl, Rh, Th, Nh, Kh, Ch⟩ := hrel
      have R := hide Rh
      have TT := hide Th
      have N := hide Nh
      have K := hide Kh
      have C := hide Ch
      clear Rh Th Nh Kh Ch S2 T2 N2 K2 C2
      by_cases hk : k < n
      · have hkq : k < q.length := by rw [HNn.out]; exact hk
        obtain ⟨bq, off, cap', e, hcell⟩ := N.out.cell hkq
        rw [HNn.out] at e
        injection e with e1 e2 e3
        subst e1 e3
        obtain ⟨i, ei, hi⟩ := HM.out _ (getD_mem hkq)
        have HT := hide (show partS L b wh loc E (q.take (k + 1)) = pstep b wh loc E (partS L b wh loc E (q.take k)) (i : Int) by rw [part_next L b wh loc E hkq, ei])
        rw [ei] at hcell
        have htl : (partS L b wh loc E (q.take k)).2.length ≤ 9 := by rw [part_len]; simp; omega
        have hii : (i : Int) < 9 := by omega
        clear ei
        generalize partS L b wh loc E (q.take k) = s at *
        have c1 := R.out.thing i 1 hi (by omega)
        have c4 := R.out.thing i 4 hi (by omega)
        simp only [Ld.thingCell] at c1 c4
        by_cases hA : s.1.kind i = 2 ∧ s.1.on i = true
        · have hk2 : (s.1.kind i == 2) = true := by simp [hA.1]
          have HV := hide (show pstep b wh loc E s (i : Int) = (s.1, s.2 ++ [tellE s.1 b wornS]) by unfold pstep; rw [if_pos (by simpa using hA)])
          rw [hA.2] at c4
          clear hA
          go_wp2_with fail
          refine (rtell_any R.out b hb _ (by simp only [List.length_append]; omega)).mono ?_
          rintro e w4 ⟨rfl, S4h, T4h⟩
          have S4 := hide S4h
          have T4 := hide (TT.out.trans T4h)
          have N4 := hide (N.out.step T4h)
          have K4 := hide (T4h.kept K.out).1
          have C4 := hide (K.out.cev T4h C.out)
          clear S4h T4h R TT N K C
          go_wp2
          go_roundw
          case rel => exact ⟨k + 1, by omega, by go_num, by rw [HT.out, HV.out]; have h := S4.out; rw [List.append_assoc] at h; exact h, T4.out, N4.out, K4.out, C4.out⟩
          case measure => simp [intOf]; omega
        · have hA2 : (s.1.kind i == 2) = false ∨ ((s.1.kind i == 2) = true ∧ s.1.on i = false) := by
            by_cases h : s.1.kind i = 2
            · exact .inr ⟨by simp [h], by cases h4 : s.1.on i with
                | false => rfl
                | true => exact absurd ⟨h, h4⟩ hA⟩
            · exact .inl (by simp [h])
          by_cases hw : wh = 2
          · subst hw
            by_cases hI : (i : Int) ∈ wayL s.1 loc
            · have HV := hide (show pstep b 2 loc E s (i : Int) = (s.1, s.2 ++ [tellE s.1 b cannotS]) by unfold pstep; rw [if_neg (by simpa using hA), if_pos ⟨rfl, hI⟩])
              have HD := hide (decide_eq_true hI)
              clear hA hI
              rcases hA2 with hk2 | ⟨hk2, h4⟩
              all_goals
                (try rw [h4] at c4)
                go_wp2_with (refine wl_scene (.tmp 67) rfl rfl rfl R.out ?_)
                refine (inside_any s.1 loc (i : Int) _).mono ?_
                rintro e w3 ⟨rfl, hb3⟩
                rw [HD.out]
                have P3 := hide (R.out.stp hb3 165)
                have R3 := hide (R.out.below hb3)
                clear hb3
                go_wp2_with fail
                refine (rtell_any R3.out b hb _ (by simp only [List.length_append]; omega)).mono ?_
                rintro e w4 ⟨rfl, S4h, T4h⟩
                have S4 := hide S4h
                have X4 := P3.out.trans T4h
                have T4 := hide (TT.out.trans X4)
                have N4 := hide (N.out.step X4)
                have K4 := hide (X4.kept K.out).1
                have C4 := hide (K.out.cev X4 C.out)
                clear S4h T4h X4 P3 R3 R TT N K C
                go_wp2
                go_roundw
                case rel => exact ⟨k + 1, by omega, by go_num, by rw [HT.out, HV.out]; have h := S4.out; rw [List.append_assoc] at h; exact h, T4.out, N4.out, K4.out, C4.out⟩
                case measure => simp [intOf]; omega
            · have HV := hide (show pstep b 2 loc E s (i : Int) = (moveL s.1 i 2 loc, s.2 ++ [allE (moveL s.1 i 2 loc) { E with thing := s.1.tname i }]) by unfold pstep; rw [if_neg (by simpa using hA), if_neg (by simpa using hI)]; rfl)
              have HD := hide (decide_eq_false hI)
              clear hA hI
              rcases hA2 with hk2 | ⟨hk2, h4⟩
              all_goals
                (try rw [h4] at c4)
                go_wp2_with (refine wl_scene (.tmp 67) rfl rfl rfl R.out ?_)
                refine (inside_any s.1 loc (i : Int) _).mono ?_
                rintro e w3 ⟨rfl, hb3⟩
                rw [HD.out]
                have P3 := hide (R.out.stp hb3 165)
                have R3 := hide (R.out.below hb3)
                have C3 := hide (K.out.cev P3.out C.out)
                clear hb3
                go_wp2_with (refine wl_event (.tmp 11) rfl rfl _ E rfl C3.out ?_)
                refine (rmove_any R3.out i hi 2 loc E (by simp only [List.length_append]; omega)).mono ?_
                rintro e w4 ⟨rfl, S4h, T4h⟩
                have S4 := hide S4h
                have X4 := P3.out.trans T4h
                have T4 := hide (TT.out.trans X4)
                have N4 := hide (N.out.step X4)
                have K4 := hide (X4.kept K.out).1
                have C4 := hide (K.out.cev X4 C.out)
                clear S4h T4h X4 P3 R3 R TT N K C C3
                go_wp2
                go_roundw
                case rel => exact ⟨k + 1, by omega, by go_num, by rw [HT.out, HV.out]; have h := S4.out; rw [List.append_assoc] at h; exact h, T4.out, N4.out, K4.out, C4.out⟩
                case measure => simp [intOf]; omega
          · have hwb : (wh == 2) = false := by simp [hw]
            have HV := hide (show pstep b wh loc E s (i : Int) = (moveL s.1 i wh loc, s.2 ++ [allE (moveL s.1 i wh loc) { E with thing := s.1.tname i }]) by unfold pstep; rw [if_neg (by simpa using hA), if_neg (by simp [hw])]; rfl)
            clear hA
            rcases hA2 with hk2 | ⟨hk2, h4⟩
            all_goals
              (try rw [h4] at c4)
              go_wp2_with (refine wl_event (.tmp 11) rfl rfl _ E rfl C.out ?_)
              refine (rmove_any R.out i hi wh loc E (by simp only [List.length_append]; omega)).mono ?_
              rintro e w4 ⟨rfl, S4h, T4h⟩
              have S4 := hide S4h
              have T4 := hide (TT.out.trans T4h)
              have N4 := hide (N.out.step T4h)
              have K4 := hide (T4h.kept K.out).1
              have C4 := hide (K.out.cev T4h C.out)
              clear S4h T4h R TT N K C
              go_wp2
              go_roundw
              case rel => exact ⟨k + 1, by omega, by go_num, by rw [HT.out, HV.out]; have h := S4.out; rw [List.append_assoc] at h; exact h, T4.out, N4.out, K4.out, C4.out⟩
              case measure => simp [intOf]; omega
      · have hkn : k = n := by omega
        subst hkn
        have hall : q.take k = q := by rw [← HNn.out]; exact List.take_length
        rw [hall] at R
        clear hall
        go_wp2
        go_end0
        exact ⟨rfl, by rw [HL.out, HE2.out]; exact R.out, TT.out⟩
end Go.Proofs.YtaifjndkgfffpaaDoor
