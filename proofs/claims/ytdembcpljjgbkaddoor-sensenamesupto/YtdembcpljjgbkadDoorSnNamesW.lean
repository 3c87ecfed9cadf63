/-
  The law SenseNames: who is not seen is not named.
-/
import Derived.Test.YtdembcpljjgbkadDoorSnKs
namespace Go.Proofs.YtdembcpljjgbkadDoor
open Go.RowKit
set_option linter.unusedVariables false

/-- The event with another name for whom that being does not see, and for itself. -/
def newOf (E : Ev) (k : Nat) (name : ByteArray) : Ev := { E with
  who := if bitB (E.by' k) 2 = true ∨ (k : Int) = E.actor then name else E.who
  whom := if bitB (E.by' k) 4 = true ∨ (k : Int) = E.other then name else E.whom }

theorem formA_noA (k : Int) : 65 ∉ formA k := by
  rcases kind_cases k with rfl | rfl | rfl | rfl | rfl | rfl | rfl | rfl | rfl | rfl | rfl | rfl | rfl | rfl | rfl | rfl | rfl | rfl | h
  iterate 18 decide
  rw [formA_none h]; simp

theorem fill_who (E : Ev) (s : ByteArray) : ∀ f : List UInt8, 65 ∉ f → fillL { E with who := s } f = fillL E f := by
  intro f
  induction f with
  | nil => intro _; rfl
  | cons c f ih =>
    intro h
    have e1 : fillL { E with who := s } (c :: f) = markL { E with who := s } c ++ fillL { E with who := s } f := rfl
    have e2 : fillL E (c :: f) = markL E c ++ fillL E f := rfl
    rw [e1, e2, ih (fun hm => h (List.mem_cons_of_mem _ hm))]
    have hc : c ≠ 65 := fun e => h (by rw [e]; exact List.mem_cons_self ..)
    have : markL { E with who := s } c = markL E c := by unfold markL; rw [if_neg hc, if_neg hc]
    rw [this]

theorem names_same (E : Ev) (k : Nat) (name : ByteArray) : tellL (newOf E k name) (k : Int) = tellL E (k : Int) := by
  have hf : formOf (newOf E k name) k = formOf E k := rfl
  have hk : fillL (asKnown (newOf E k name) k) (formOf E k) = fillL (asKnown E k) (formOf E k) := by
    have hw : (asKnown (newOf E k name) k).whom = (asKnown E k).whom := by
      show (if (k : Int) = E.other then bs youL else if bitB (E.by' k) 4 = true then bs someoneL else (if bitB (E.by' k) 4 = true ∨ (k : Int) = E.other then name else E.whom)) = (if (k : Int) = E.other then bs youL else if bitB (E.by' k) 4 = true then bs someoneL else E.whom)
      by_cases h1 : (k : Int) = E.other
      · rw [if_pos h1, if_pos h1]
      · rw [if_neg h1, if_neg h1]
        by_cases h2 : bitB (E.by' k) 4 = true
        · rw [if_pos h2, if_pos h2]
        · rw [if_neg h2, if_neg h2, if_neg (fun h => h.elim h2 h1)]
    have he : asKnown (newOf E k name) k = { asKnown E k with who := (asKnown (newOf E k name) k).who } := by
      show ({ E with who := _, whom := (asKnown (newOf E k name) k).whom } : Ev) = { E with who := _, whom := (asKnown E k).whom }
      rw [hw]
      rfl
    by_cases hN : (k : Int) = E.actor
    · have : formOf E k = formA E.kind := by unfold formOf; rw [if_pos hN]
      rw [he, this]
      exact fill_who _ _ _ (formA_noA _)
    · have : (asKnown (newOf E k name) k).who = (asKnown E k).who := by
        show (if bitB (E.by' k) 2 = true then bs someoneL else (if bitB (E.by' k) 2 = true ∨ (k : Int) = E.actor then name else E.who)) = (if bitB (E.by' k) 2 = true then bs someoneL else E.who)
        by_cases h2 : bitB (E.by' k) 2 = true
        · rw [if_pos h2, if_pos h2]
        · rw [if_neg h2, if_neg h2, if_neg (fun h => h.elim h2 hN)]
      rw [he, this]
  unfold tellL
  rw [Int.toNat_natCast, hf, hk]
  rfl

/-- A whole value goes into the block that was made last, wherever that is. -/
theorem wl_newN {P : Program} {ops : Array Oper} {rest : List Oper} {op : Oper} {a : Act} {w : World} {Q : Exit → Act → World → Prop} (t : TypeId) (x y : Operand) (ho : op.op = .store t x y) (hw : Region.wanted op (yielded ops a.tmps) = true) {W : World} (c c' : Array Value) (hW : W = w.alloc (.cells c t)) (n : Nat) (hn : w.heap.size = n)
    (hx : a.eval x = .pointer (some ⟨n, 0, none⟩)) (hy : a.eval y = .agg c') (hi : (P.info? t).map (·.size) = some c'.size) (hs : c.size = c'.size) (h1 : c'.all (·.oneCell') = true)
    (h : wpList P ops Q rest (a.put op.dst undef) (w.alloc (.cells c' t))) : wpList P ops Q (op :: rest) a W := by
  subst hn
  exact wl_new t x y ho hw c c' hW hx hy hi hs h1 h

theorem cev_two (w : World) (E F : Ev) : Cev ((w.alloc (.cells E.cells 48)).alloc (.cells F.cells 48)) (w.heap.size + 1) F := by
  have := cev_new (w.alloc (.cells E.cells 48)) F
  rw [World.size_alloc] at this; exact this

theorem fit_new {E : Ev} (h : Fit E) (k : Nat) {name : ByteArray} (hn : name.size ≤ 1048576) : Fit (newOf E k name) := by
  refine ⟨h.n0, h.n1, ?_, ?_, h.thing, h.text⟩
  · show (if bitB (E.by' k) 2 = true ∨ (k : Int) = E.actor then name else E.who).size ≤ _
    split
    · exact hn
    · exact h.who
  · show (if bitB (E.by' k) 4 = true ∨ (k : Int) = E.other then name else E.whom).size ≤ _
    split
    · exact hn
    · exact h.whom

set_option maxRecDepth 100000 in
set_option maxHeartbeats 4000000 in
theorem namesW (E : Ev) (b : Int) (name : ByteArray) (w : World) (hv : Vb w) (hai : Ai w) (h : Fit E) (hname : name.size ≤ 1048576) :
    Calls Tryd.prog 8 #[.agg E.cells, .int .i64 b, .string name] w fun e w' => e = .returned (.bool true) ∧ Below w.heap.size w w' := by
  have HV := hide hv
  have HAi := hide hai
  clear hv hai
  cases hb6 : amg b 6 with
  | false =>
    have HT := hide (tell_none (E := E) (.inl hb6))
    have CT := hide (fun W hv hai => tell_fit E b W hv hai h)
    rw [HT.out] at CT
    have HB : Hid (Below w.heap.size w (w.alloc (.cells E.cells 48))) := (Below.refl _ _).alloc (Nat.le_refl _) _
    clear h hname
    by_cases h0 : 0 ≤ b
    · have h6 : 6 ≤ b := by have := amg_neg hb6; omega
      clear hb6
      go_enter Tryd.func8, Tryd.ntmps8
      go_wp2_with (refine wl_event (.tmp 3) rfl rfl _ E rfl (cev_new w E) ?_)
      refine (CT.out _ (HV.out.below HB.out (Nat.le_refl _)) (HAi.out.below HB.out)).mono ?_
      rintro e w1 ⟨rfl, hb⟩
      have HL1 := hide (HB.out.trans (hb.mono HB.out.size))
      clear hb
      unfold tellA
      go_wp2_with fail
      refine (ksenses_any _ (HV.out.below HL1.out (Nat.le_refl _)) (HAi.out.below HL1.out)).mono ?_
      rintro e w3 ⟨rfl, hb⟩
      have HL3 := hide (HL1.out.trans (hb.mono HL1.out.size))
      clear hb
      go_wp2
      go_ret
      exact ⟨rfl, HL3.out⟩
    · clear hb6
      go_enter Tryd.func8, Tryd.ntmps8
      go_wp2_with (refine wl_event (.tmp 3) rfl rfl _ E rfl (cev_new w E) ?_)
      refine (CT.out _ (HV.out.below HB.out (Nat.le_refl _)) (HAi.out.below HB.out)).mono ?_
      rintro e w1 ⟨rfl, hb⟩
      have HL1 := hide (HB.out.trans (hb.mono HB.out.size))
      clear hb
      unfold tellA
      go_wp2_with fail
      refine (ksenses_any _ (HV.out.below HL1.out (Nat.le_refl _)) (HAi.out.below HL1.out)).mono ?_
      rintro e w3 ⟨rfl, hb⟩
      have HL3 := hide (HL1.out.trans (hb.mono HL1.out.size))
      clear hb
      go_wp2
      go_ret
      exact ⟨rfl, HL3.out⟩
  | true =>
    obtain ⟨b0, b6⟩ := amg_pos hb6
    obtain ⟨k, rfl⟩ := Int.eq_ofNat_of_zero_le b0
    have hk6 : k < 6 := by omega
    have CT := hide (fun W hv hai => tell_fit E (k : Int) W hv hai h)
    have CF := hide (fun W hv hai => tell_fit (newOf E k name) (k : Int) W hv hai (fit_new h k hname))
    rw [names_same] at CF
    clear h hname hb6
    have kb : ∀ o, ((w.alloc (.cells E.cells 48)).alloc o).cell? ⟨w.heap.size, 10 + k, none⟩ = some (.int .i64 (E.by' k)) := fun o => ((cev_new w E).alloc o).by' k hk6
    have ka : ∀ o, ((w.alloc (.cells E.cells 48)).alloc o).cell? ⟨w.heap.size, 2, none⟩ = some (.int .i64 E.actor) := fun o => ((cev_new w E).alloc o).actor
    have ko : ∀ o, ((w.alloc (.cells E.cells 48)).alloc o).cell? ⟨w.heap.size, 3, none⟩ = some (.int .i64 E.other) := fun o => ((cev_new w E).alloc o).othr
    cases hA : bitB (E.by' k) 2 with
    | true =>
      cases hB : bitB (E.by' k) 4 with
      | true =>
        have HW := hide (show newOf E k name = { E with who := name, whom := name } by unfold newOf; rw [if_pos (.inl hA), if_pos (.inl hB)])
        have fA : (bits .and .i64 (E.by' k) 2 != 0) = true := hA
        have fB : (bits .and .i64 (E.by' k) 4 != 0) = true := hB
        have HC := hide (show Cev ((w.alloc (.cells E.cells 48)).alloc (.cells ((E.cells.setIfInBounds 6 (.string name)).setIfInBounds 7 (.string name)) 48)) (w.heap.size + 1) (newOf E k name) by rw [HW.out]; exact cev_two w E { E with who := name, whom := name })
        have HL : Hid (Below w.heap.size w ((w.alloc (.cells E.cells 48)).alloc (.cells ((E.cells.setIfInBounds 6 (.string name)).setIfInBounds 7 (.string name)) 48))) := ((Below.refl _ _).alloc (Nat.le_refl _) _).alloc (by simp) _
        clear hA hB
        go_enter Tryd.func8, Tryd.ntmps8
        go_wp2_with (first | (refine wl_event (.tmp 3) rfl rfl _ E rfl (cev_new w E) ?_) | (refine wl_event (.tmp 3) rfl rfl _ E rfl ((cev_new w E).alloc _) ?_) | (refine wl_newN 48 (.tmp 9) (.tmp 31) rfl rfl _ E.cells rfl (w.heap.size + 1) (by simp) rfl rfl Tryd.sizeEvent rfl (Ev.one _) ?_))
        refine (CT.out _ (HV.out.below HL.out (Nat.le_refl _)) (HAi.out.below HL.out)).mono ?_
        rintro e w1 ⟨rfl, hb⟩
        have HC1 := hide (HC.out.behind hb (Nat.le_refl _))
        have HL1 := hide (HL.out.trans (hb.mono HL.out.size))
        clear hb
        cases ht : tellL E (k : Int) with
        | none =>
          rw [ht] at CF
          unfold tellA
          go_wp2_with (refine wl_event (.tmp 9) rfl rfl _ (newOf E k name) rfl HC1.out ?_)
          refine (CF.out _ (HV.out.below HL1.out (Nat.le_refl _)) (HAi.out.below HL1.out)).mono ?_
          rintro e w2 ⟨rfl, hb⟩
          have HL2 := hide (HL1.out.trans (hb.mono HL1.out.size))
          clear hb
          unfold tellA
          go_wp2_with fail
          refine (ksenses_any _ (HV.out.below HL2.out (Nat.le_refl _)) (HAi.out.below HL2.out)).mono ?_
          rintro e w3 ⟨rfl, hb⟩
          have HL3 := hide (HL2.out.trans (hb.mono HL2.out.size))
          clear hb
          go_wp2
          go_ret
          exact ⟨rfl, HL3.out⟩
        | some l =>
          rw [ht] at CF
          unfold tellA
          go_wp2_with (refine wl_event (.tmp 9) rfl rfl _ (newOf E k name) rfl HC1.out ?_)
          refine (CF.out _ (HV.out.below HL1.out (Nat.le_refl _)) (HAi.out.below HL1.out)).mono ?_
          rintro e w2 ⟨rfl, hb⟩
          have HL2 := hide (HL1.out.trans (hb.mono HL1.out.size))
          clear hb
          unfold tellA
          go_wp2_with fail
          refine (ksenses_any _ (HV.out.below HL2.out (Nat.le_refl _)) (HAi.out.below HL2.out)).mono ?_
          rintro e w3 ⟨rfl, hb⟩
          have HL3 := hide (HL2.out.trans (hb.mono HL2.out.size))
          clear hb
          go_wp2
          go_ret
          exact ⟨rfl, HL3.out⟩
      | false =>
        by_cases hO : (k : Int) = E.other
        · have HW := hide (show newOf E k name = { E with who := name, whom := name } by unfold newOf; rw [if_pos (.inl hA), if_pos (.inr hO)])
          have fA : (bits .and .i64 (E.by' k) 2 != 0) = true := hA
          have fB : (bits .and .i64 (E.by' k) 4 != 0) = false := hB
          have fO : ((k : Int) == E.other) = true := by simp [hO]
          have HC := hide (show Cev ((w.alloc (.cells E.cells 48)).alloc (.cells ((E.cells.setIfInBounds 6 (.string name)).setIfInBounds 7 (.string name)) 48)) (w.heap.size + 1) (newOf E k name) by rw [HW.out]; exact cev_two w E { E with who := name, whom := name })
          have HL : Hid (Below w.heap.size w ((w.alloc (.cells E.cells 48)).alloc (.cells ((E.cells.setIfInBounds 6 (.string name)).setIfInBounds 7 (.string name)) 48))) := ((Below.refl _ _).alloc (Nat.le_refl _) _).alloc (by simp) _
          clear hA hB hO
          go_enter Tryd.func8, Tryd.ntmps8
          go_wp2_with (first | (refine wl_event (.tmp 3) rfl rfl _ E rfl (cev_new w E) ?_) | (refine wl_event (.tmp 3) rfl rfl _ E rfl ((cev_new w E).alloc _) ?_) | (refine wl_newN 48 (.tmp 9) (.tmp 31) rfl rfl _ E.cells rfl (w.heap.size + 1) (by simp) rfl rfl Tryd.sizeEvent rfl (Ev.one _) ?_))
          refine (CT.out _ (HV.out.below HL.out (Nat.le_refl _)) (HAi.out.below HL.out)).mono ?_
          rintro e w1 ⟨rfl, hb⟩
          have HC1 := hide (HC.out.behind hb (Nat.le_refl _))
          have HL1 := hide (HL.out.trans (hb.mono HL.out.size))
          clear hb
          cases ht : tellL E (k : Int) with
          | none =>
            rw [ht] at CF
            unfold tellA
            go_wp2_with (refine wl_event (.tmp 9) rfl rfl _ (newOf E k name) rfl HC1.out ?_)
            refine (CF.out _ (HV.out.below HL1.out (Nat.le_refl _)) (HAi.out.below HL1.out)).mono ?_
            rintro e w2 ⟨rfl, hb⟩
            have HL2 := hide (HL1.out.trans (hb.mono HL1.out.size))
            clear hb
            unfold tellA
            go_wp2_with fail
            refine (ksenses_any _ (HV.out.below HL2.out (Nat.le_refl _)) (HAi.out.below HL2.out)).mono ?_
            rintro e w3 ⟨rfl, hb⟩
            have HL3 := hide (HL2.out.trans (hb.mono HL2.out.size))
            clear hb
            go_wp2
            go_ret
            exact ⟨rfl, HL3.out⟩
          | some l =>
            rw [ht] at CF
            unfold tellA
            go_wp2_with (refine wl_event (.tmp 9) rfl rfl _ (newOf E k name) rfl HC1.out ?_)
            refine (CF.out _ (HV.out.below HL1.out (Nat.le_refl _)) (HAi.out.below HL1.out)).mono ?_
            rintro e w2 ⟨rfl, hb⟩
            have HL2 := hide (HL1.out.trans (hb.mono HL1.out.size))
            clear hb
            unfold tellA
            go_wp2_with fail
            refine (ksenses_any _ (HV.out.below HL2.out (Nat.le_refl _)) (HAi.out.below HL2.out)).mono ?_
            rintro e w3 ⟨rfl, hb⟩
            have HL3 := hide (HL2.out.trans (hb.mono HL2.out.size))
            clear hb
            go_wp2
            go_ret
            exact ⟨rfl, HL3.out⟩
        · have HW := hide (show newOf E k name = { E with who := name } by unfold newOf; rw [if_pos (.inl hA), if_neg (by rintro (h | h) <;> first | (rw [hB] at h; simp at h) | exact hO h)])
          have fA : (bits .and .i64 (E.by' k) 2 != 0) = true := hA
          have fB : (bits .and .i64 (E.by' k) 4 != 0) = false := hB
          have fO : ((k : Int) == E.other) = false := by simp [hO]
          have HC := hide (show Cev ((w.alloc (.cells E.cells 48)).alloc (.cells (E.cells.setIfInBounds 6 (.string name)) 48)) (w.heap.size + 1) (newOf E k name) by rw [HW.out]; exact cev_two w E { E with who := name })
          have HL : Hid (Below w.heap.size w ((w.alloc (.cells E.cells 48)).alloc (.cells (E.cells.setIfInBounds 6 (.string name)) 48))) := ((Below.refl _ _).alloc (Nat.le_refl _) _).alloc (by simp) _
          clear hA hB hO
          go_enter Tryd.func8, Tryd.ntmps8
          go_wp2_with (first | (refine wl_event (.tmp 3) rfl rfl _ E rfl (cev_new w E) ?_) | (refine wl_event (.tmp 3) rfl rfl _ E rfl ((cev_new w E).alloc _) ?_) | (refine wl_newN 48 (.tmp 9) (.tmp 31) rfl rfl _ E.cells rfl (w.heap.size + 1) (by simp) rfl rfl Tryd.sizeEvent rfl (Ev.one _) ?_))
          refine (CT.out _ (HV.out.below HL.out (Nat.le_refl _)) (HAi.out.below HL.out)).mono ?_
          rintro e w1 ⟨rfl, hb⟩
          have HC1 := hide (HC.out.behind hb (Nat.le_refl _))
          have HL1 := hide (HL.out.trans (hb.mono HL.out.size))
          clear hb
          cases ht : tellL E (k : Int) with
          | none =>
            rw [ht] at CF
            unfold tellA
            go_wp2_with (refine wl_event (.tmp 9) rfl rfl _ (newOf E k name) rfl HC1.out ?_)
            refine (CF.out _ (HV.out.below HL1.out (Nat.le_refl _)) (HAi.out.below HL1.out)).mono ?_
            rintro e w2 ⟨rfl, hb⟩
            have HL2 := hide (HL1.out.trans (hb.mono HL1.out.size))
            clear hb
            unfold tellA
            go_wp2_with fail
            refine (ksenses_any _ (HV.out.below HL2.out (Nat.le_refl _)) (HAi.out.below HL2.out)).mono ?_
            rintro e w3 ⟨rfl, hb⟩
            have HL3 := hide (HL2.out.trans (hb.mono HL2.out.size))
            clear hb
            go_wp2
            go_ret
            exact ⟨rfl, HL3.out⟩
          | some l =>
            rw [ht] at CF
            unfold tellA
            go_wp2_with (refine wl_event (.tmp 9) rfl rfl _ (newOf E k name) rfl HC1.out ?_)
            refine (CF.out _ (HV.out.below HL1.out (Nat.le_refl _)) (HAi.out.below HL1.out)).mono ?_
            rintro e w2 ⟨rfl, hb⟩
            have HL2 := hide (HL1.out.trans (hb.mono HL1.out.size))
            clear hb
            unfold tellA
            go_wp2_with fail
            refine (ksenses_any _ (HV.out.below HL2.out (Nat.le_refl _)) (HAi.out.below HL2.out)).mono ?_
            rintro e w3 ⟨rfl, hb⟩
            have HL3 := hide (HL2.out.trans (hb.mono HL2.out.size))
            clear hb
            go_wp2
            go_ret
            exact ⟨rfl, HL3.out⟩
    | false =>
      by_cases hN : (k : Int) = E.actor
      · cases hB : bitB (E.by' k) 4 with
        | true =>
          have HW := hide (show newOf E k name = { E with who := name, whom := name } by unfold newOf; rw [if_pos (.inr hN), if_pos (.inl hB)])
          have fA : (bits .and .i64 (E.by' k) 2 != 0) = false := hA
          have fN : ((k : Int) == E.actor) = true := by simp [hN]
          have fB : (bits .and .i64 (E.by' k) 4 != 0) = true := hB
          have HC := hide (show Cev ((w.alloc (.cells E.cells 48)).alloc (.cells ((E.cells.setIfInBounds 6 (.string name)).setIfInBounds 7 (.string name)) 48)) (w.heap.size + 1) (newOf E k name) by rw [HW.out]; exact cev_two w E { E with who := name, whom := name })
          have HL : Hid (Below w.heap.size w ((w.alloc (.cells E.cells 48)).alloc (.cells ((E.cells.setIfInBounds 6 (.string name)).setIfInBounds 7 (.string name)) 48))) := ((Below.refl _ _).alloc (Nat.le_refl _) _).alloc (by simp) _
          clear hA hB hN
          go_enter Tryd.func8, Tryd.ntmps8
          go_wp2_with (first | (refine wl_event (.tmp 3) rfl rfl _ E rfl (cev_new w E) ?_) | (refine wl_event (.tmp 3) rfl rfl _ E rfl ((cev_new w E).alloc _) ?_) | (refine wl_newN 48 (.tmp 9) (.tmp 31) rfl rfl _ E.cells rfl (w.heap.size + 1) (by simp) rfl rfl Tryd.sizeEvent rfl (Ev.one _) ?_))
          refine (CT.out _ (HV.out.below HL.out (Nat.le_refl _)) (HAi.out.below HL.out)).mono ?_
          rintro e w1 ⟨rfl, hb⟩
          have HC1 := hide (HC.out.behind hb (Nat.le_refl _))
          have HL1 := hide (HL.out.trans (hb.mono HL.out.size))
          clear hb
          cases ht : tellL E (k : Int) with
          | none =>
            rw [ht] at CF
            unfold tellA
            go_wp2_with (refine wl_event (.tmp 9) rfl rfl _ (newOf E k name) rfl HC1.out ?_)
            refine (CF.out _ (HV.out.below HL1.out (Nat.le_refl _)) (HAi.out.below HL1.out)).mono ?_
            rintro e w2 ⟨rfl, hb⟩
            have HL2 := hide (HL1.out.trans (hb.mono HL1.out.size))
            clear hb
            unfold tellA
            go_wp2_with fail
            refine (ksenses_any _ (HV.out.below HL2.out (Nat.le_refl _)) (HAi.out.below HL2.out)).mono ?_
            rintro e w3 ⟨rfl, hb⟩
            have HL3 := hide (HL2.out.trans (hb.mono HL2.out.size))
            clear hb
            go_wp2
            go_ret
            exact ⟨rfl, HL3.out⟩
          | some l =>
            rw [ht] at CF
            unfold tellA
            go_wp2_with (refine wl_event (.tmp 9) rfl rfl _ (newOf E k name) rfl HC1.out ?_)
            refine (CF.out _ (HV.out.below HL1.out (Nat.le_refl _)) (HAi.out.below HL1.out)).mono ?_
            rintro e w2 ⟨rfl, hb⟩
            have HL2 := hide (HL1.out.trans (hb.mono HL1.out.size))
            clear hb
            unfold tellA
            go_wp2_with fail
            refine (ksenses_any _ (HV.out.below HL2.out (Nat.le_refl _)) (HAi.out.below HL2.out)).mono ?_
            rintro e w3 ⟨rfl, hb⟩
            have HL3 := hide (HL2.out.trans (hb.mono HL2.out.size))
            clear hb
            go_wp2
            go_ret
            exact ⟨rfl, HL3.out⟩
        | false =>
          by_cases hO : (k : Int) = E.other
          · have HW := hide (show newOf E k name = { E with who := name, whom := name } by unfold newOf; rw [if_pos (.inr hN), if_pos (.inr hO)])
            have fA : (bits .and .i64 (E.by' k) 2 != 0) = false := hA
            have fN : ((k : Int) == E.actor) = true := by simp [hN]
            have fB : (bits .and .i64 (E.by' k) 4 != 0) = false := hB
            have fO : ((k : Int) == E.other) = true := by simp [hO]
            have HC := hide (show Cev ((w.alloc (.cells E.cells 48)).alloc (.cells ((E.cells.setIfInBounds 6 (.string name)).setIfInBounds 7 (.string name)) 48)) (w.heap.size + 1) (newOf E k name) by rw [HW.out]; exact cev_two w E { E with who := name, whom := name })
            have HL : Hid (Below w.heap.size w ((w.alloc (.cells E.cells 48)).alloc (.cells ((E.cells.setIfInBounds 6 (.string name)).setIfInBounds 7 (.string name)) 48))) := ((Below.refl _ _).alloc (Nat.le_refl _) _).alloc (by simp) _
            clear hA hB hN hO
            go_enter Tryd.func8, Tryd.ntmps8
            go_wp2_with (first | (refine wl_event (.tmp 3) rfl rfl _ E rfl (cev_new w E) ?_) | (refine wl_event (.tmp 3) rfl rfl _ E rfl ((cev_new w E).alloc _) ?_) | (refine wl_newN 48 (.tmp 9) (.tmp 31) rfl rfl _ E.cells rfl (w.heap.size + 1) (by simp) rfl rfl Tryd.sizeEvent rfl (Ev.one _) ?_))
            refine (CT.out _ (HV.out.below HL.out (Nat.le_refl _)) (HAi.out.below HL.out)).mono ?_
            rintro e w1 ⟨rfl, hb⟩
            have HC1 := hide (HC.out.behind hb (Nat.le_refl _))
            have HL1 := hide (HL.out.trans (hb.mono HL.out.size))
            clear hb
            cases ht : tellL E (k : Int) with
            | none =>
              rw [ht] at CF
              unfold tellA
              go_wp2_with (refine wl_event (.tmp 9) rfl rfl _ (newOf E k name) rfl HC1.out ?_)
              refine (CF.out _ (HV.out.below HL1.out (Nat.le_refl _)) (HAi.out.below HL1.out)).mono ?_
              rintro e w2 ⟨rfl, hb⟩
              have HL2 := hide (HL1.out.trans (hb.mono HL1.out.size))
              clear hb
              unfold tellA
              go_wp2_with fail
              refine (ksenses_any _ (HV.out.below HL2.out (Nat.le_refl _)) (HAi.out.below HL2.out)).mono ?_
              rintro e w3 ⟨rfl, hb⟩
              have HL3 := hide (HL2.out.trans (hb.mono HL2.out.size))
              clear hb
              go_wp2
              go_ret
              exact ⟨rfl, HL3.out⟩
            | some l =>
              rw [ht] at CF
              unfold tellA
              go_wp2_with (refine wl_event (.tmp 9) rfl rfl _ (newOf E k name) rfl HC1.out ?_)
              refine (CF.out _ (HV.out.below HL1.out (Nat.le_refl _)) (HAi.out.below HL1.out)).mono ?_
              rintro e w2 ⟨rfl, hb⟩
              have HL2 := hide (HL1.out.trans (hb.mono HL1.out.size))
              clear hb
              unfold tellA
              go_wp2_with fail
              refine (ksenses_any _ (HV.out.below HL2.out (Nat.le_refl _)) (HAi.out.below HL2.out)).mono ?_
              rintro e w3 ⟨rfl, hb⟩
              have HL3 := hide (HL2.out.trans (hb.mono HL2.out.size))
              clear hb
              go_wp2
              go_ret
              exact ⟨rfl, HL3.out⟩
          · have HW := hide (show newOf E k name = { E with who := name } by unfold newOf; rw [if_pos (.inr hN), if_neg (by rintro (h | h) <;> first | (rw [hB] at h; simp at h) | exact hO h)])
            have fA : (bits .and .i64 (E.by' k) 2 != 0) = false := hA
            have fN : ((k : Int) == E.actor) = true := by simp [hN]
            have fB : (bits .and .i64 (E.by' k) 4 != 0) = false := hB
            have fO : ((k : Int) == E.other) = false := by simp [hO]
            have HC := hide (show Cev ((w.alloc (.cells E.cells 48)).alloc (.cells (E.cells.setIfInBounds 6 (.string name)) 48)) (w.heap.size + 1) (newOf E k name) by rw [HW.out]; exact cev_two w E { E with who := name })
            have HL : Hid (Below w.heap.size w ((w.alloc (.cells E.cells 48)).alloc (.cells (E.cells.setIfInBounds 6 (.string name)) 48))) := ((Below.refl _ _).alloc (Nat.le_refl _) _).alloc (by simp) _
            clear hA hB hN hO
            go_enter Tryd.func8, Tryd.ntmps8
            go_wp2_with (first | (refine wl_event (.tmp 3) rfl rfl _ E rfl (cev_new w E) ?_) | (refine wl_event (.tmp 3) rfl rfl _ E rfl ((cev_new w E).alloc _) ?_) | (refine wl_newN 48 (.tmp 9) (.tmp 31) rfl rfl _ E.cells rfl (w.heap.size + 1) (by simp) rfl rfl Tryd.sizeEvent rfl (Ev.one _) ?_))
            refine (CT.out _ (HV.out.below HL.out (Nat.le_refl _)) (HAi.out.below HL.out)).mono ?_
            rintro e w1 ⟨rfl, hb⟩
            have HC1 := hide (HC.out.behind hb (Nat.le_refl _))
            have HL1 := hide (HL.out.trans (hb.mono HL.out.size))
            clear hb
            cases ht : tellL E (k : Int) with
            | none =>
              rw [ht] at CF
              unfold tellA
              go_wp2_with (refine wl_event (.tmp 9) rfl rfl _ (newOf E k name) rfl HC1.out ?_)
              refine (CF.out _ (HV.out.below HL1.out (Nat.le_refl _)) (HAi.out.below HL1.out)).mono ?_
              rintro e w2 ⟨rfl, hb⟩
              have HL2 := hide (HL1.out.trans (hb.mono HL1.out.size))
              clear hb
              unfold tellA
              go_wp2_with fail
              refine (ksenses_any _ (HV.out.below HL2.out (Nat.le_refl _)) (HAi.out.below HL2.out)).mono ?_
              rintro e w3 ⟨rfl, hb⟩
              have HL3 := hide (HL2.out.trans (hb.mono HL2.out.size))
              clear hb
              go_wp2
              go_ret
              exact ⟨rfl, HL3.out⟩
            | some l =>
              rw [ht] at CF
              unfold tellA
              go_wp2_with (refine wl_event (.tmp 9) rfl rfl _ (newOf E k name) rfl HC1.out ?_)
              refine (CF.out _ (HV.out.below HL1.out (Nat.le_refl _)) (HAi.out.below HL1.out)).mono ?_
              rintro e w2 ⟨rfl, hb⟩
              have HL2 := hide (HL1.out.trans (hb.mono HL1.out.size))
              clear hb
              unfold tellA
              go_wp2_with fail
              refine (ksenses_any _ (HV.out.below HL2.out (Nat.le_refl _)) (HAi.out.below HL2.out)).mono ?_
              rintro e w3 ⟨rfl, hb⟩
              have HL3 := hide (HL2.out.trans (hb.mono HL2.out.size))
              clear hb
              go_wp2
              go_ret
              exact ⟨rfl, HL3.out⟩
      · cases hB : bitB (E.by' k) 4 with
        | true =>
          have HW := hide (show newOf E k name = { E with whom := name } by unfold newOf; rw [if_neg (by rintro (h | h) <;> first | (rw [hA] at h; simp at h) | exact hN h), if_pos (.inl hB)])
          have fA : (bits .and .i64 (E.by' k) 2 != 0) = false := hA
          have fN : ((k : Int) == E.actor) = false := by simp [hN]
          have fB : (bits .and .i64 (E.by' k) 4 != 0) = true := hB
          have HC := hide (show Cev ((w.alloc (.cells E.cells 48)).alloc (.cells (E.cells.setIfInBounds 7 (.string name)) 48)) (w.heap.size + 1) (newOf E k name) by rw [HW.out]; exact cev_two w E { E with whom := name })
          have HL : Hid (Below w.heap.size w ((w.alloc (.cells E.cells 48)).alloc (.cells (E.cells.setIfInBounds 7 (.string name)) 48))) := ((Below.refl _ _).alloc (Nat.le_refl _) _).alloc (by simp) _
          clear hA hB hN
          go_enter Tryd.func8, Tryd.ntmps8
          go_wp2_with (first | (refine wl_event (.tmp 3) rfl rfl _ E rfl (cev_new w E) ?_) | (refine wl_event (.tmp 3) rfl rfl _ E rfl ((cev_new w E).alloc _) ?_) | (refine wl_newN 48 (.tmp 9) (.tmp 31) rfl rfl _ E.cells rfl (w.heap.size + 1) (by simp) rfl rfl Tryd.sizeEvent rfl (Ev.one _) ?_))
          refine (CT.out _ (HV.out.below HL.out (Nat.le_refl _)) (HAi.out.below HL.out)).mono ?_
          rintro e w1 ⟨rfl, hb⟩
          have HC1 := hide (HC.out.behind hb (Nat.le_refl _))
          have HL1 := hide (HL.out.trans (hb.mono HL.out.size))
          clear hb
          cases ht : tellL E (k : Int) with
          | none =>
            rw [ht] at CF
            unfold tellA
            go_wp2_with (refine wl_event (.tmp 9) rfl rfl _ (newOf E k name) rfl HC1.out ?_)
            refine (CF.out _ (HV.out.below HL1.out (Nat.le_refl _)) (HAi.out.below HL1.out)).mono ?_
            rintro e w2 ⟨rfl, hb⟩
            have HL2 := hide (HL1.out.trans (hb.mono HL1.out.size))
            clear hb
            unfold tellA
            go_wp2_with fail
            refine (ksenses_any _ (HV.out.below HL2.out (Nat.le_refl _)) (HAi.out.below HL2.out)).mono ?_
            rintro e w3 ⟨rfl, hb⟩
            have HL3 := hide (HL2.out.trans (hb.mono HL2.out.size))
            clear hb
            go_wp2
            go_ret
            exact ⟨rfl, HL3.out⟩
          | some l =>
            rw [ht] at CF
            unfold tellA
            go_wp2_with (refine wl_event (.tmp 9) rfl rfl _ (newOf E k name) rfl HC1.out ?_)
            refine (CF.out _ (HV.out.below HL1.out (Nat.le_refl _)) (HAi.out.below HL1.out)).mono ?_
            rintro e w2 ⟨rfl, hb⟩
            have HL2 := hide (HL1.out.trans (hb.mono HL1.out.size))
            clear hb
            unfold tellA
            go_wp2_with fail
            refine (ksenses_any _ (HV.out.below HL2.out (Nat.le_refl _)) (HAi.out.below HL2.out)).mono ?_
            rintro e w3 ⟨rfl, hb⟩
            have HL3 := hide (HL2.out.trans (hb.mono HL2.out.size))
            clear hb
            go_wp2
            go_ret
            exact ⟨rfl, HL3.out⟩
        | false =>
          by_cases hO : (k : Int) = E.other
          · have HW := hide (show newOf E k name = { E with whom := name } by unfold newOf; rw [if_neg (by rintro (h | h) <;> first | (rw [hA] at h; simp at h) | exact hN h), if_pos (.inr hO)])
            have fA : (bits .and .i64 (E.by' k) 2 != 0) = false := hA
            have fN : ((k : Int) == E.actor) = false := by simp [hN]
            have fB : (bits .and .i64 (E.by' k) 4 != 0) = false := hB
            have fO : ((k : Int) == E.other) = true := by simp [hO]
            have HC := hide (show Cev ((w.alloc (.cells E.cells 48)).alloc (.cells (E.cells.setIfInBounds 7 (.string name)) 48)) (w.heap.size + 1) (newOf E k name) by rw [HW.out]; exact cev_two w E { E with whom := name })
            have HL : Hid (Below w.heap.size w ((w.alloc (.cells E.cells 48)).alloc (.cells (E.cells.setIfInBounds 7 (.string name)) 48))) := ((Below.refl _ _).alloc (Nat.le_refl _) _).alloc (by simp) _
            clear hA hB hN hO
            go_enter Tryd.func8, Tryd.ntmps8
            go_wp2_with (first | (refine wl_event (.tmp 3) rfl rfl _ E rfl (cev_new w E) ?_) | (refine wl_event (.tmp 3) rfl rfl _ E rfl ((cev_new w E).alloc _) ?_) | (refine wl_newN 48 (.tmp 9) (.tmp 31) rfl rfl _ E.cells rfl (w.heap.size + 1) (by simp) rfl rfl Tryd.sizeEvent rfl (Ev.one _) ?_))
            refine (CT.out _ (HV.out.below HL.out (Nat.le_refl _)) (HAi.out.below HL.out)).mono ?_
            rintro e w1 ⟨rfl, hb⟩
            have HC1 := hide (HC.out.behind hb (Nat.le_refl _))
            have HL1 := hide (HL.out.trans (hb.mono HL.out.size))
            clear hb
            cases ht : tellL E (k : Int) with
            | none =>
              rw [ht] at CF
              unfold tellA
              go_wp2_with (refine wl_event (.tmp 9) rfl rfl _ (newOf E k name) rfl HC1.out ?_)
              refine (CF.out _ (HV.out.below HL1.out (Nat.le_refl _)) (HAi.out.below HL1.out)).mono ?_
              rintro e w2 ⟨rfl, hb⟩
              have HL2 := hide (HL1.out.trans (hb.mono HL1.out.size))
              clear hb
              unfold tellA
              go_wp2_with fail
              refine (ksenses_any _ (HV.out.below HL2.out (Nat.le_refl _)) (HAi.out.below HL2.out)).mono ?_
              rintro e w3 ⟨rfl, hb⟩
              have HL3 := hide (HL2.out.trans (hb.mono HL2.out.size))
              clear hb
              go_wp2
              go_ret
              exact ⟨rfl, HL3.out⟩
            | some l =>
              rw [ht] at CF
              unfold tellA
              go_wp2_with (refine wl_event (.tmp 9) rfl rfl _ (newOf E k name) rfl HC1.out ?_)
              refine (CF.out _ (HV.out.below HL1.out (Nat.le_refl _)) (HAi.out.below HL1.out)).mono ?_
              rintro e w2 ⟨rfl, hb⟩
              have HL2 := hide (HL1.out.trans (hb.mono HL1.out.size))
              clear hb
              unfold tellA
              go_wp2_with fail
              refine (ksenses_any _ (HV.out.below HL2.out (Nat.le_refl _)) (HAi.out.below HL2.out)).mono ?_
              rintro e w3 ⟨rfl, hb⟩
              have HL3 := hide (HL2.out.trans (hb.mono HL2.out.size))
              clear hb
              go_wp2
              go_ret
              exact ⟨rfl, HL3.out⟩
          · have HW := hide (show newOf E k name = E by unfold newOf; rw [if_neg (by rintro (h | h) <;> first | (rw [hA] at h; simp at h) | exact hN h), if_neg (by rintro (h | h) <;> first | (rw [hB] at h; simp at h) | exact hO h)])
            have fA : (bits .and .i64 (E.by' k) 2 != 0) = false := hA
            have fN : ((k : Int) == E.actor) = false := by simp [hN]
            have fB : (bits .and .i64 (E.by' k) 4 != 0) = false := hB
            have fO : ((k : Int) == E.other) = false := by simp [hO]
            have HC := hide (show Cev ((w.alloc (.cells E.cells 48)).alloc (.cells E.cells 48)) (w.heap.size + 1) (newOf E k name) by rw [HW.out]; exact cev_two w E E)
            have HL : Hid (Below w.heap.size w ((w.alloc (.cells E.cells 48)).alloc (.cells E.cells 48))) := ((Below.refl _ _).alloc (Nat.le_refl _) _).alloc (by simp) _
            clear hA hB hN hO
            go_enter Tryd.func8, Tryd.ntmps8
            go_wp2_with (first | (refine wl_event (.tmp 3) rfl rfl _ E rfl (cev_new w E) ?_) | (refine wl_event (.tmp 3) rfl rfl _ E rfl ((cev_new w E).alloc _) ?_) | (refine wl_newN 48 (.tmp 9) (.tmp 31) rfl rfl _ E.cells rfl (w.heap.size + 1) (by simp) rfl rfl Tryd.sizeEvent rfl (Ev.one _) ?_))
            refine (CT.out _ (HV.out.below HL.out (Nat.le_refl _)) (HAi.out.below HL.out)).mono ?_
            rintro e w1 ⟨rfl, hb⟩
            have HC1 := hide (HC.out.behind hb (Nat.le_refl _))
            have HL1 := hide (HL.out.trans (hb.mono HL.out.size))
            clear hb
            cases ht : tellL E (k : Int) with
            | none =>
              rw [ht] at CF
              unfold tellA
              go_wp2_with (refine wl_event (.tmp 9) rfl rfl _ (newOf E k name) rfl HC1.out ?_)
              refine (CF.out _ (HV.out.below HL1.out (Nat.le_refl _)) (HAi.out.below HL1.out)).mono ?_
              rintro e w2 ⟨rfl, hb⟩
              have HL2 := hide (HL1.out.trans (hb.mono HL1.out.size))
              clear hb
              unfold tellA
              go_wp2_with fail
              refine (ksenses_any _ (HV.out.below HL2.out (Nat.le_refl _)) (HAi.out.below HL2.out)).mono ?_
              rintro e w3 ⟨rfl, hb⟩
              have HL3 := hide (HL2.out.trans (hb.mono HL2.out.size))
              clear hb
              go_wp2
              go_ret
              exact ⟨rfl, HL3.out⟩
            | some l =>
              rw [ht] at CF
              unfold tellA
              go_wp2_with (refine wl_event (.tmp 9) rfl rfl _ (newOf E k name) rfl HC1.out ?_)
              refine (CF.out _ (HV.out.below HL1.out (Nat.le_refl _)) (HAi.out.below HL1.out)).mono ?_
              rintro e w2 ⟨rfl, hb⟩
              have HL2 := hide (HL1.out.trans (hb.mono HL1.out.size))
              clear hb
              unfold tellA
              go_wp2_with fail
              refine (ksenses_any _ (HV.out.below HL2.out (Nat.le_refl _)) (HAi.out.below HL2.out)).mono ?_
              rintro e w3 ⟨rfl, hb⟩
              have HL3 := hide (HL2.out.trans (hb.mono HL2.out.size))
              clear hb
              go_wp2
              go_ret
              exact ⟨rfl, HL3.out⟩
end Go.Proofs.YtdembcpljjgbkadDoor
