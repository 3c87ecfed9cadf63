/-
  An event is equal to itself, as the program's == finds.
-/
import Derived.Test.YtaifjndkgfffpaaGreatDoorMgB
import Derived.Test.YtaifjndkgfffpaaGreatDoorMgK
import Derived.Maps.Own
import Derived.Maps.Views
import Derived.Maps.Keyed
import Derived.Test.YtaifjndkgfffpaaGreatDoorMgC
namespace Go.Proofs.YtaifjndkgfffpaaGreatDoor
open Go.RowKit
set_option linter.unusedVariables false

theorem Tryz.sizeEvInts : (Tryz.prog.info? 22).map (·.size) = some 6 := by kernel_rfl
theorem Tryz.cellsEvInt : Tryz.prog.cellsOf 3 = 1 := by kernel_rfl
theorem Tryz.infoEvInt : (Tryz.prog.info? 3).map (fun i => (i.zero, i.size, i.bytes)) = some (some (.int .i64 0), 1, 8) := by kernel_rfl

section
variable {w : World}
theorem Ev.byA_get (E : Ev) (j : Nat) (hj : j < 6) : (E.cells.extract 10 (10 + 6))[j]? = some (.int .i64 (E.by' j)) := by
  match j, hj with
  | 0, _ => rfl
  | 1, _ => rfl
  | 2, _ => rfl
  | 3, _ => rfl
  | 4, _ => rfl
  | 5, _ => rfl
theorem eqEvent (E : Ev) (w : World) : (Op.equalIn 10000 62 (.agg E.cells) (.agg E.cells)).run Tryz.prog w = .ok true w := by
  have hf : Tryz.prog.underlying 62 = some (.struct (Tryz.prog.fieldsOf 62)) := by simp [Program.fieldsOf, Tryz.underlying62]
  rw [run_equalIn_struct w 9999 62 _ _ hf (by kernel_rfl)]
  refine eq_fields _ ?_
  simp only [Program.fieldsOf, Tryz.underlying62]
  intro f hfm
  simp at hfm
  rcases hfm with rfl | rfl | rfl | rfl | rfl | rfl | rfl | rfl | rfl | rfl | rfl
  iterate 6 (exact ⟨_, part1 3 _ Tryz.underlying3 rfl _ _ _ rfl, eqi _ _⟩)
  iterate 4 (exact ⟨_, part1 9 _ Tryz.underlying9 rfl _ _ _ rfl, eqs _ _⟩)
  refine ⟨_, part_agg Tryz.underlying22 rfl Tryz.sizeEvInts _ 10, ?_⟩
  obtain ⟨i0, hi, _, _, _⟩ := info_parts Tryz.infoEvInt
  show (Op.equalIn 9999 22 (.agg (E.cells.extract 10 (10 + 6))) (.agg (E.cells.extract 10 (10 + 6)))).run Tryz.prog w = _
  rw [run_equalIn_array (P := Tryz.prog) w 9998 _ _ Tryz.underlying22 hi, Tryz.cellsEvInt]
  refine eq_items _ fun j hj => ⟨_, ?_, eqi 9997 (E.by' j)⟩
  rw [Nat.mul_one]
  exact part1 3 _ Tryz.underlying3 rfl j _ _ (E.byA_get j (by simpa using hj))
theorem Tryz.guardEvent : Tryz.prog.eqGuardType Tryz.prog.depth 62 = false := by kernel_rfl
end
end Go.Proofs.YtaifjndkgfffpaaGreatDoor
/-
  A map[int]bool that the call made, as a set of numbers: made, asked, marked; of no program.
-/
namespace Go.Proofs.YtaifjndkgfffpaaGreatDoor
set_option linter.unusedVariables false

/-- Block b is a map of numbers to bools, of at most n entries; S says of each number what it answers. -/
def Seen (P : Program) (k e : TypeId) (w : World) (b n : Nat) (S : Int → Bool) : Prop :=
  ∃ D : DataW Unit, w.ownsMap P k (plainElem P e) b n D ∧ Maps.IsMap D ∧ ∀ i, (Lit.int .i64 i).wf = true → D.atKey (.int .i64 i) (.lit (.bool false)) = .lit (.bool (S i))

section
variable {P : Program} {k e : TypeId} {w : World} {b n : Nat} {S : Int → Bool}

theorem seen_made (w : World) : Seen P k e (w.alloc (.map #[] 0)) w.heap.size 0 (fun _ => false) :=
  ⟨.map [], World.ownsMap_made w P k _, ⟨_, rfl⟩, fun i _ => rfl⟩

theorem Seen.lt (h : Seen P k e w b n S) : b < w.heap.size := by
  obtain ⟨D, h, _⟩ := h; exact h.lt
theorem Seen.grown {w' : World} {row : Option Nat} (h : Seen P k e w b n S) (hg : w.grownBy w' row) (hne : some b ≠ row) : Seen P k e w' b n S := by
  obtain ⟨D, h, hm, hs⟩ := h; exact ⟨D, h.kept hg hne, hm, hs⟩
theorem Seen.mono (h : Seen P k e w b n S) {n' : Nat} (hn : n ≤ n') : Seen P k e w b n' S := by
  obtain ⟨D, h, hm, hs⟩ := h; exact ⟨D, h.mono hn, hm, hs⟩

theorem plainElem_bool_inv (he : P.underlying e = some .bool) {v : Value} {z : DataW Unit × List MemPlace} (h : plainElem P e v = some z) : ∃ x, v = .bool x ∧ z = (.lit (.bool x), []) := by
  unfold plainElem at h
  rw [he] at h
  cases v <;> simp at h
  exact ⟨_, rfl, h.symm⟩

theorem Seen.ask {t : TypeId} (h : Seen P k e w b n S) (hk : P.underlying k = some (.int .i64)) (ht : P.underlying t = some (.map k e)) (he : P.underlying e = some .bool) (hz : (zeroValue e).run P w = .ok (.bool false) w) {i : Int} (hi : (Lit.int .i64 i).wf = true) :
    (Instr.lookup t (.map (some b)) (.int .i64 i) false).run P w = .ok (.bool (S i)) w := by
  obtain ⟨D, h, hm, hs⟩ := h
  obtain ⟨v, ps, hrun, hv⟩ := h.lookup (Maps.int_keyed hk) ht hz (plainElem_bool he false) (Maps.keyOf_int_mk hk hi)
  obtain ⟨x, rfl, hx⟩ := plainElem_bool_inv he hv
  rw [hs i hi] at hx
  simp only [Prod.mk.injEq, DataW.lit.injEq, Lit.bool.injEq] at hx
  rw [hx.1]; exact hrun

theorem Seen.mark {t : TypeId} (h : Seen P k e w b n S) (hk : P.underlying k = some (.int .i64)) (ht : P.underlying t = some (.map k e)) (he : P.underlying e = some .bool) (hn : n < maxLen) {i : Int} (hi : (Lit.int .i64 i).wf = true) :
    ∃ w', (Instr.mapUpdate t (.map (some b)) (.int .i64 i) (.bool true)).run P w = .ok () w' ∧ Seen P k e w' b (n + 1) (fun j => decide (j = i) || S j) ∧ w.grownBy w' (some b) := by
  obtain ⟨D, h, hm, hs⟩ := h
  obtain ⟨w', hrun, h1, h2⟩ := h.update (Maps.int_keyed hk) ht hn (Maps.keyOf_int_mk hk hi) (plainElem_bool he true)
  refine ⟨w', hrun, ⟨_, h1, ?_, fun j hj => ?_⟩, h2⟩
  · obtain ⟨es, rfl⟩ := hm
    exact ⟨_, rfl⟩
  · by_cases e0 : j = i
    · subst e0
      rw [Maps.atKey_put_same hm (by trivial)]; simp
    · rw [Maps.atKey_put_other (by intro e2; cases e2; exact e0 rfl), hs j hj]
      simp [e0]
end

section
variable {P : Program} {ops : Array Oper} {rest : List Oper} {op : Oper} {a : Act} {w : World} {Q : Exit → Act → World → Prop} {k e : TypeId} {b n : Nat} {S : Int → Bool}

/-- The set is asked, at an operation that may be guarded. -/
theorem wl_ask (t : TypeId) (m x : Operand) (ho : op.op = .lookup t m x false) (hw : Region.wanted op (yielded ops a.tmps) = true) (hk : P.underlying k = some (.int .i64)) (ht : P.underlying t = some (.map k e)) (he : P.underlying e = some .bool)
    (hz : (zeroValue e).run P w = .ok (.bool false) w) (hm : a.eval m = .map (some b)) (hS : Seen P k e w b n S) (i : Int) (hx : a.eval x = .int .i64 i) (hi : (Lit.int .i64 i).wf = true)
    (h : wpList P ops Q rest (a.put op.dst (.bool (S i))) w) : wpList P ops Q (op :: rest) a w := by
  simp only [wpList]
  rw [if_pos hw]
  refine .inl ?_
  unfold Oper.wp execOp
  simp only [ho, hm, hx, Sem.run_bind, hS.ask hk ht he hz hi, Result.andThen_ok]
  exact h

/-- A number is marked. -/
theorem wl_mark (t : TypeId) (m x v : Operand) (ho : op.op = .mapUpdate t m x v) (hw : Region.wanted op (yielded ops a.tmps) = true) (hk : P.underlying k = some (.int .i64)) (ht : P.underlying t = some (.map k e)) (he : P.underlying e = some .bool)
    (hn : n < maxLen) (hm : a.eval m = .map (some b)) (hS : Seen P k e w b n S) (i : Int) (hx : a.eval x = .int .i64 i) (hi : (Lit.int .i64 i).wf = true) (hv : a.eval v = .bool true)
    (h : ∀ w', Seen P k e w' b (n + 1) (fun j => decide (j = i) || S j) → w.grownBy w' (some b) → wpList P ops Q rest (a.put op.dst undef) w') : wpList P ops Q (op :: rest) a w := by
  simp only [wpList]
  rw [if_pos hw]
  refine .inl ?_
  obtain ⟨w', hrun, h1, h2⟩ := hS.mark hk ht he hn hi
  unfold Oper.wp execOp
  simp only [ho, hm, hx, hv, Sem.run_bind, hrun, Result.andThen_ok]
  exact h w' h1 h2
end
end Go.Proofs.YtaifjndkgfffpaaGreatDoor
/-
  The document's own about, IsHidden, root, RoomOf, IsBright: contracts.
-/
namespace Go.Proofs.YtaifjndkgfffpaaGreatDoor
open Go.RowKit
set_option linter.unusedVariables false

set_option maxHeartbeats 400000 in
theorem about_any (L : Ld) (b : Int) (w : World) :
    Calls Tryz.prog 11 #[.agg L.cells, .int .i64 b] w fun e w' => e = .returned (.bool (abtL L b)) ∧ Below w.heap.size w w' := by
  have hb : Hid (Below w.heap.size w (w.alloc (.cells L.cells 34))) := (Below.refl _ _).alloc (Nat.le_refl _) _
  by_cases h0 : 0 ≤ b
  · obtain ⟨k, rfl⟩ := Int.eq_ofNat_of_zero_le h0
    by_cases h6 : k < 6
    · have HV := hide (show abtL L (k : Int) = L.here k by simp [abtL, amg]; omega)
      have c1 : (w.alloc (.cells L.cells 34)).cell? ⟨w.heap.size, 129 + k * 6 + 1, none⟩ = some (.bool (L.here k)) := (cod_new w L).being k 1 (by omega) (by omega)
      go_enter Tryz.func11, Tryz.ntmps11
      go_wp2
      go_ret
      exact ⟨ret_bool HV.out.symm, hb.out⟩
    · have HV := hide (show abtL L (k : Int) = false by simp [abtL, amg]; omega)
      go_enter Tryz.func11, Tryz.ntmps11
      go_wp2
      go_ret
      exact ⟨ret_bool HV.out.symm, hb.out⟩
  · have HV := hide (show abtL L b = false by simp [abtL, amg]; omega)
    go_enter Tryz.func11, Tryz.ntmps11
    go_wp2
    go_ret
    exact ⟨ret_bool HV.out.symm, hb.out⟩

set_option maxRecDepth 100000 in
set_option maxHeartbeats 1000000 in
theorem ishidden_any (L : Ld) (b : Int) (w : World) :
    Calls Tryz.prog 80 #[.agg L.cells, .int .i64 b] w fun e w' => e = .returned (.bool (hiddenL L b)) ∧ Below w.heap.size w w' := by
  go_enter Tryz.func80, Tryz.ntmps80
  go_wp2_with (refine wl_things (.tmp 7) rfl rfl _ L rfl (cod_new w L) ?_)
  go_loopw [9] (fun c wr => ∃ k : Nat, k ≤ 9 ∧ c = .int .i64 k ∧ GdRel L w wr ∧ ∀ j, j < k → cloaks L b j = false) (fun c _ => 9 - (intOf c).toNat)
  case atStart => exact ⟨0, by omega, rfl, gd_start L w, fun j h => by omega⟩
  case round =>
    obtain ⟨k, hle, rfl, R, hall⟩ := hrel
    have HR := hide R
    have HA := hide hall
    clear R hall
    have NX : Hid (cloaks L b k = false → ∀ j, j < k + 1 → cloaks L b j = false) := fun h j hj => by
      rcases Nat.lt_or_ge j k with h' | h'
      · exact HA.out j h'
      · rw [show j = k by omega]; exact h
    by_cases hk : k < 9
    · have HC := hide (show cloaks L b k = ((L.wh k == 1) && (L.loc k == b) && (L.kind k == 2) && L.on k) by
        rw [Bool.eq_iff_iff]; simp [cloaks])
      cases h1 : (L.wh k == 1) with
      | false =>
        have HN := hide (NX.out (by rw [HC.out, h1]; rfl))
        go_wp2_with (first | (refine wl_ithingT (.tmp 8) (.tmp 9) rfl rfl k L rfl rfl hk ?_) | (refine wl_new 28 (.tmp 6) (.tmp 11) rfl rfl _ _ rfl rfl rfl Tryz.sizeThing rfl rfl ?_))
        go_roundw
        case rel => exact ⟨k + 1, by omega, by go_num, HR.out.box _, HN.out⟩
        case measure => simp [intOf]; omega
      | true =>
        cases h2 : (L.loc k == b) with
        | false =>
          have HN := hide (NX.out (by rw [HC.out, h2]; simp))
          go_wp2_with (first | (refine wl_ithingT (.tmp 8) (.tmp 9) rfl rfl k L rfl rfl hk ?_) | (refine wl_new 28 (.tmp 6) (.tmp 11) rfl rfl _ _ rfl rfl rfl Tryz.sizeThing rfl rfl ?_))
          go_roundw
          case rel => exact ⟨k + 1, by omega, by go_num, HR.out.box _, HN.out⟩
          case measure => simp [intOf]; omega
        | true =>
          cases h3 : (L.kind k == 2) with
          | false =>
            have HN := hide (NX.out (by rw [HC.out, h3]; simp))
            go_wp2_with (first | (refine wl_ithingT (.tmp 8) (.tmp 9) rfl rfl k L rfl rfl hk ?_) | (refine wl_new 28 (.tmp 6) (.tmp 11) rfl rfl _ _ rfl rfl rfl Tryz.sizeThing rfl rfl ?_))
            go_roundw
            case rel => exact ⟨k + 1, by omega, by go_num, HR.out.box _, HN.out⟩
            case measure => simp [intOf]; omega
          | true =>
            cases h4 : L.on k with
            | false =>
              have HN := hide (NX.out (by rw [HC.out, h4]; simp))
              go_wp2_with (first | (refine wl_ithingT (.tmp 8) (.tmp 9) rfl rfl k L rfl rfl hk ?_) | (refine wl_new 28 (.tmp 6) (.tmp 11) rfl rfl _ _ rfl rfl rfl Tryz.sizeThing rfl rfl ?_))
              go_roundw
              case rel => exact ⟨k + 1, by omega, by go_num, HR.out.box _, HN.out⟩
              case measure => simp [intOf]; omega
            | true =>
              have HN := hide (show hiddenL L b = true from any_yes (f := cloaks L b) hk (by rw [HC.out, h1, h2, h3, h4]; rfl))
              go_wp2_with (first | (refine wl_ithingT (.tmp 8) (.tmp 9) rfl rfl k L rfl rfl hk ?_) | (refine wl_new 28 (.tmp 6) (.tmp 11) rfl rfl _ _ rfl rfl rfl Tryz.sizeThing rfl rfl ?_))
              go_ret
              exact ⟨ret_bool HN.out.symm, (HR.out.box _).low⟩
    · have HN := hide (show hiddenL L b = false from any_no fun j hj => HA.out j (by omega))
      go_wp2
      go_ret
      exact ⟨ret_bool HN.out.symm, HR.out.low⟩

/-! ### The document's way out. -/
/-- The set in block b says yes to a number, as the world is. -/
def SaysYes (b : Nat) (wr : World) (k : Nat) : Prop := (Instr.lookup 107 (.map (some b)) (.int .i64 (k : Int)) false).run Tryz.prog wr = .ok (.bool true) wr

theorem countP_lt {p q : Nat → Bool} : ∀ l : List Nat, (∀ x ∈ l, p x = true → q x = true) → (∃ x ∈ l, p x = false ∧ q x = true) → l.countP p < l.countP q
  | [], _, ⟨x, hx, _⟩ => by simp at hx
  | y :: l, h, ⟨x, hx, h1, h2⟩ => by
    have hle : l.countP p ≤ l.countP q := List.countP_mono_left (fun z hz => h z (List.mem_cons_of_mem _ hz))
    rcases List.mem_cons.1 hx with e | hm
    · subst e
      rw [List.countP_cons, List.countP_cons, h1, h2]
      simp; omega
    · have ih := countP_lt l (fun z hz => h z (List.mem_cons_of_mem _ hz)) ⟨x, hm, h1, h2⟩
      have hy := h y (List.mem_cons_self ..)
      rw [List.countP_cons, List.countP_cons]
      by_cases hp : p y = true
      · rw [if_pos hp, if_pos (hy hp)]; omega
      · rw [if_neg hp]; split <;> omega

theorem Tryz.zeroBool (w : World) : (zeroValue 4).run Tryz.prog w = .ok (.bool false) w := by kernel_rfl

/-- A round's head. -/
structure RtRel (L : Ld) (w : World) (i0 : Int) (i : Int) (o : Bool) (S : List Int) (wr : World) : Prop where
  rt : Rt L i0 S i o
  gd : GdRel L w wr
  seen : Seen Tryz.prog 3 4 wr (w.heap.size + 1) S.length (fun j => decide (j ∈ S))

theorem wf_small (k : Nat) (hk : k < 9) : (Lit.int .i64 (k : Int)).wf = true := by
  rcases (show k = 0 ∨ k = 1 ∨ k = 2 ∨ k = 3 ∨ k = 4 ∨ k = 5 ∨ k = 6 ∨ k = 7 ∨ k = 8 by omega) with rfl | rfl | rfl | rfl | rfl | rfl | rfl | rfl | rfl <;> rfl

set_option maxRecDepth 100000 in
theorem says_of {S : List Int} {wr : World} {b n : Nat} (h : Seen Tryz.prog 3 4 wr b n (fun j => decide (j ∈ S))) (k : Nat) (hk : k < 9) : SaysYes b wr k ↔ (k : Int) ∈ S := by
  have := h.ask (t := 107) Tryz.underlying3 Tryz.underlying107 Tryz.underlying4 (Tryz.zeroBool wr) (wf_small k hk)
  unfold SaysYes
  rw [this]
  simp

theorem notYet_lt {S : List Int} {wr wr' : World} {b n n' : Nat} {i : Nat} (hi : i < 9) (hn : (i : Int) ∉ S) (h : Seen Tryz.prog 3 4 wr b n (fun j => decide (j ∈ S))) (h' : Seen Tryz.prog 3 4 wr' b n' (fun j => decide (j ∈ S ++ [(i : Int)]))) :
    9 - (List.range 9).countP (fun k => @decide (SaysYes b wr' k) (Classical.propDecidable _)) < 9 - (List.range 9).countP (fun k => @decide (SaysYes b wr k) (Classical.propDecidable _)) := by
  have hlt := countP_lt (p := fun k : Nat => @decide (SaysYes b wr k) (Classical.propDecidable _)) (q := fun k : Nat => @decide (SaysYes b wr' k) (Classical.propDecidable _)) (List.range 9) (fun x hx hp => by
      have hx9 : x < 9 := by simpa using hx
      simp only [decide_eq_true_eq] at hp ⊢
      rw [says_of h x hx9] at hp
      rw [says_of h' x hx9]
      exact List.mem_append_left _ hp) ⟨i, by simpa using hi, by
        simp only [decide_eq_false_iff_not]
        rw [says_of h i hi]; exact hn, by
        simp only [decide_eq_true_eq]
        rw [says_of h' i hi]; simp⟩
  have hle : (List.range 9).countP (fun k : Nat => @decide (SaysYes b wr' k) (Classical.propDecidable _)) ≤ 9 := by
    have := List.countP_le_length (p := fun k : Nat => @decide (SaysYes b wr' k) (Classical.propDecidable _)) (l := List.range 9)
    simpa using this
  omega
end Go.Proofs.YtaifjndkgfffpaaGreatDoor
/-
  The document's own root, RoomOf, IsBright: contracts.
-/
namespace Go.Proofs.YtaifjndkgfffpaaGreatDoor
open Go.RowKit
set_option linter.unusedVariables false

theorem ret_root {L : Ld} {i : Int} {a b : Int} {c d : Bool} (h : rootL L i = (a, b, c, d)) : Ending.returned (.tuple #[.int .i64 a, .int .i64 b, .bool c, .bool d]) = .returned (.tuple #[.int .i64 (rootL L i).1, .int .i64 (rootL L i).2.1, .bool (rootL L i).2.2.1, .bool (rootL L i).2.2.2]) := by rw [h]

theorem resR4 {fn : Func} {a b c d : Tmp} (hf : fn.results = #[.tmp a, .tmp b, .tmp c, .tmp d]) {tmps : Array Value} {w : World} {x y z u : Value}
    (h1 : tmps.getD a undef = x) (h2 : tmps.getD b undef = y) (h3 : tmps.getD c undef = z) (h4 : tmps.getD d undef = u) :
    (results fn tmps).run Tryz.prog w = .ok (.tuple #[x, y, z, u]) w := by
  simp only [Array.getD_eq_getD_getElem?] at h1 h2 h3 h4
  simp only [results, hf]
  simp [h1, h2, h3, h4]

theorem Seen.box {P : Program} {k e : TypeId} {w : World} {b n : Nat} {S : Int → Bool} (h : Seen P k e w b n S) (o : Obj) : Seen P k e (w.alloc o) b n S := h.grown (World.grownBy_alloc w o none) (by simp)

/-- Behind a mark. -/
theorem GdRel.marked {L : Ld} {w wr w1 : World} (h : GdRel L w wr) (hg : wr.grownBy w1 (some (w.heap.size + 1))) : GdRel L w w1 := by
  have hb : Below (w.heap.size + 1) wr w1 := (Below.refl _ _ : Below (w.heap.size + 1) wr wr).grown hg (by have := h.cod.lt; omega) (fun k hk => by simp at hk; omega)
  refine ⟨?_, h.low.trans (hb.mono (by omega))⟩
  have := h.cod
  unfold Cod at this ⊢
  rw [hb.block _ (by omega)]; exact this
theorem seen_snoc {P : Program} {k e : TypeId} {w : World} {b n : Nat} {S : List Int} {i : Int} (h : Seen P k e w b n (fun j => decide (j = i) || decide (j ∈ S))) : Seen P k e w b n (fun j => decide (j ∈ S ++ [i])) := by
  have : (fun j => decide (j = i) || decide (j ∈ S)) = (fun j => decide (j ∈ S ++ [i])) := by
    funext j
    rw [Bool.eq_iff_iff]
    simp only [Bool.or_eq_true, decide_eq_true_eq, List.mem_append, List.mem_singleton]
    exact Or.comm
  rw [← this]; exact h

set_option maxRecDepth 100000 in
set_option maxHeartbeats 2000000 in
theorem root_any (L : Ld) (i0 : Int) (w : World) :
    Calls Tryz.prog 46 #[.agg L.cells, .int .i64 i0] w fun e w' => e = .returned (.tuple #[.int .i64 (rootL L i0).1, .int .i64 (rootL L i0).2.1, .bool (rootL L i0).2.2.1, .bool (rootL L i0).2.2.2]) ∧ Below w.heap.size w w' := by
  have hmk : ∀ w : World, (Instr.makeMap 107 none).run Tryz.prog w = .ok (.map (some w.heap.size)) (w.alloc (.map #[] 0)) := fun w => rfl
  go_enter Tryz.func46, Tryz.ntmps46
  go_wp2
  go_loopw [1, 6] (fun iv ov wr => ∃ (i : Int) (o : Bool) (S : List Int), iv = .int .i64 i ∧ ov = .bool o ∧ RtRel L w i0 i o S wr) (fun _ _ wr => 9 - (List.range 9).countP (fun k => @decide (SaysYes (w.heap.size + 1) wr k) (Classical.propDecidable _)))
  case atStart =>
    refine ⟨i0, true, [], rfl, rfl, rt_start L i0, (gd_start L w).box _, ?_⟩
    have := seen_made (P := Tryz.prog) (k := 3) (e := 4) (w.alloc (.cells L.cells 34))
    rw [World.size_alloc] at this
    simpa using this
  case round =>
    obtain ⟨i, o, S, rfl, rfl, R⟩ := hrel
    have HR := hide R
    clear R
    by_cases hi0 : 0 ≤ i
    · obtain ⟨k, rfl⟩ := Int.eq_ofNat_of_zero_le hi0
      by_cases h9 : k < 9
      · by_cases hm : (k : Int) ∈ S
        · have HM := hide hm
          have hd : decide ((k : Int) ∈ S) = true := decide_eq_true hm
          have HN := hide (HR.out.rt.out (.inr hm))
          clear hm
          go_wp2_with (refine wl_ask 107 (.tmp 18) (.tmp 19) rfl rfl Tryz.underlying3 Tryz.underlying107 Tryz.underlying4 (Tryz.zeroBool _) rfl HR.out.seen (k : Int) rfl (wf_small k h9) ?_)
          refine bodyPost_ret (resR4 rfl rfl rfl rfl rfl) rfl ?_
          exact ⟨ret_root HN.out, HR.out.gd.low⟩
        · have HM := hide hm
          have hd : decide ((k : Int) ∈ S) = false := decide_eq_false hm
          have hlen := HR.out.rt.len
          clear hm
          go_wp2_with (first | (refine wl_ask 107 (.tmp 18) (.tmp 19) rfl rfl Tryz.underlying3 Tryz.underlying107 Tryz.underlying4 (Tryz.zeroBool _) rfl HR.out.seen (k : Int) rfl (wf_small k h9) ?_) | (refine wl_mark 107 (.tmp 23) (.tmp 24) (.const (.bool true)) rfl rfl Tryz.underlying3 Tryz.underlying107 Tryz.underlying4 (by unfold maxLen; omega) rfl HR.out.seen (k : Int) rfl (wf_small k h9) rfl ?_))
          intro w1 hs hg
          have G1 := hide (HR.out.gd.marked hg)
          have S1 := hide (seen_snoc hs)
          clear hs hg
          have HX := hide (notYet_lt h9 HM.out HR.out.seen S1.out)
          by_cases h2 : L.wh k = 2
          · have H2 := hide h2
            have e2 : (L.wh k != 2) = false := by simp [h2]
            clear h2
            have HS := hide (HR.out.rt.step (amg_mk (by omega) (by omega)) HM.out (by rw [Int.toNat_natCast]; exact H2.out))
            rw [Int.toNat_natCast] at HS
            have B1 := hide (G1.out.box (.cells #[.string (L.tname k), .int .i64 (L.kind k), .int .i64 (L.wh k), .int .i64 (L.loc k), .bool (L.on k)] 28))
            have T1 := hide (S1.out.box (.cells #[.string (L.tname k), .int .i64 (L.kind k), .int .i64 (L.wh k), .int .i64 (L.loc k), .bool (L.on k)] 28))
            have HX1 := hide (notYet_lt h9 HM.out HR.out.seen T1.out)
            have HLn := hide (show (S ++ [(k : Int)]).length = S.length + 1 by simp)
            rw [← HLn.out] at T1
            by_cases hj0 : 0 ≤ L.loc k
            · obtain ⟨j, hj⟩ := Int.eq_ofNat_of_zero_le hj0
              rw [hj] at HS B1 T1 HX1
              by_cases hj9 : j < 9
              · rw [if_pos (amg_mk (by omega) (by omega)), Int.toNat_natCast] at HS
                have co : (w1.alloc (.cells #[.string (L.tname k), .int .i64 (L.kind k), .int .i64 (L.wh k), .int .i64 (j : Int), .bool (L.on k)] 28)).cell? ⟨w.heap.size, 84 + j * 5 + 4, none⟩ = some (.bool (L.on j)) := B1.out.cod.thing j 4 hj9 (by omega)
                clear hj0
                cases o with
                | true =>
                  go_wp2_with (first | (refine wl_thing (.tmp 27) rfl rfl _ k L rfl G1.out.cod h9 ?_) | (refine wl_new 28 (.tmp 9) (.tmp 28) rfl rfl _ _ rfl rfl rfl Tryz.sizeThing rfl rfl ?_))
                  go_roundw
                  case rel => exact ⟨_, _, _, rfl, rfl, HS.out, B1.out, T1.out⟩
                  case measure => exact HX1.out
                | false =>
                  go_wp2_with (first | (refine wl_thing (.tmp 27) rfl rfl _ k L rfl G1.out.cod h9 ?_) | (refine wl_new 28 (.tmp 9) (.tmp 28) rfl rfl _ _ rfl rfl rfl Tryz.sizeThing rfl rfl ?_))
                  go_roundw
                  case rel => exact ⟨_, _, _, rfl, rfl, HS.out, B1.out, T1.out⟩
                  case measure => exact HX1.out
              · rw [if_neg (by rw [amg_no (by omega)]; simp)] at HS
                clear hj0
                go_wp2_with (first | (refine wl_thing (.tmp 27) rfl rfl _ k L rfl G1.out.cod h9 ?_) | (refine wl_new 28 (.tmp 9) (.tmp 28) rfl rfl _ _ rfl rfl rfl Tryz.sizeThing rfl rfl ?_))
                go_roundw
                case rel => exact ⟨_, _, _, rfl, rfl, HS.out, B1.out, T1.out⟩
                case measure => exact HX1.out
            · rw [if_neg (by rw [amg_no (by omega)]; simp)] at HS
              go_wp2_with (first | (refine wl_thing (.tmp 27) rfl rfl _ k L rfl G1.out.cod h9 ?_) | (refine wl_new 28 (.tmp 9) (.tmp 28) rfl rfl _ _ rfl rfl rfl Tryz.sizeThing rfl rfl ?_))
              go_roundw
              case rel => exact ⟨_, _, _, rfl, rfl, HS.out, B1.out, T1.out⟩
              case measure => exact HX1.out
          · have H2 := hide h2
            have e2 : (L.wh k != 2) = true := by simp [h2]
            have HN := hide (HR.out.rt.done (amg_mk (by omega) (by omega)) HM.out (by rw [Int.toNat_natCast]; exact h2))
            rw [Int.toNat_natCast] at HN
            clear h2
            have B1 := hide (G1.out.box (.cells #[.string (L.tname k), .int .i64 (L.kind k), .int .i64 (L.wh k), .int .i64 (L.loc k), .bool (L.on k)] 28))
            cases hz : (L.wh k == 0) with
            | true =>
              have HZ := hide (show rootL L i0 = (L.wh k, L.loc k, o, true) by rw [HN.out]; have : L.wh k = 0 := by simpa using hz
                                                                               simp [this])
              go_wp2_with (first | (refine wl_thing (.tmp 27) rfl rfl _ k L rfl G1.out.cod h9 ?_) | (refine wl_new 28 (.tmp 9) (.tmp 28) rfl rfl _ _ rfl rfl rfl Tryz.sizeThing rfl rfl ?_))
              go_region
              all_goals go_wp2
              all_goals refine bodyPost_ret (resR4 rfl rfl rfl rfl rfl) rfl ?_
              all_goals exact ⟨ret_root HZ.out, B1.out.drew.low⟩
            | false =>
              have HZ := hide (show rootL L i0 = (L.wh k, L.loc k, o, (L.wh k == 1)) by
                rw [HN.out]; have : ¬ L.wh k = 0 := by simpa using hz
                have e : decide (L.wh k = 1) = (L.wh k == 1) := by rw [Bool.eq_iff_iff]; simp
                simp [this, e])
              go_wp2_with (first | (refine wl_thing (.tmp 27) rfl rfl _ k L rfl G1.out.cod h9 ?_) | (refine wl_new 28 (.tmp 9) (.tmp 28) rfl rfl _ _ rfl rfl rfl Tryz.sizeThing rfl rfl ?_))
              go_region
              all_goals go_wp2
              all_goals refine bodyPost_ret (resR4 rfl rfl rfl rfl rfl) rfl ?_
              all_goals exact ⟨ret_root HZ.out, B1.out.drew.low⟩
      · have HN := hide (HR.out.rt.out (.inl (amg_no (by omega))))
        go_wp2
        refine bodyPost_ret (resR4 rfl rfl rfl rfl rfl) rfl ?_
        exact ⟨ret_root HN.out, HR.out.gd.low⟩
    · have HN := hide (HR.out.rt.out (.inl (amg_no (by omega))))
      go_wp2
      refine bodyPost_ret (resR4 rfl rfl rfl rfl rfl) rfl ?_
      exact ⟨ret_root HN.out, HR.out.gd.low⟩
end Go.Proofs.YtaifjndkgfffpaaGreatDoor
/-
  The document's own RoomOf, IsBright: contracts.
-/
namespace Go.Proofs.YtaifjndkgfffpaaGreatDoor
open Go.RowKit
set_option linter.unusedVariables false

theorem ret_room {L : Ld} {i : Int} {a : Int} {b : Bool} (h : roomL L i = (a, b)) : Ending.returned (.tuple #[.int .i64 a, .bool b]) = .returned (.tuple #[.int .i64 (roomL L i).1, .bool (roomL L i).2]) := by rw [h]

set_option maxRecDepth 100000 in
set_option maxHeartbeats 1000000 in
theorem roomof_any (L : Ld) (i : Int) (w : World) :
    Calls Tryz.prog 79 #[.agg L.cells, .int .i64 i] w fun e w' => e = .returned (.tuple #[.int .i64 (roomL L i).1, .bool (roomL L i).2]) ∧ Below w.heap.size w w' := by
  have HV := hide (room_root L i)
  have C := hide (fun W => root_any L i W)
  generalize rootL L i = t at *
  obtain ⟨wh, loc, op, ok⟩ := t
  go_enter Tryz.func79, Tryz.ntmps79
  go_wp2_with (refine wl_land (.tmp 2) rfl rfl _ L rfl (cod_new w L) ?_)
  refine (C.out _).mono ?_
  rintro e w1 ⟨rfl, hb⟩
  have G1 := hide ((gd_start L w).call hb)
  clear hb C
  cases ok with
  | false =>
    have HN := hide (show roomL L i = (-1, false) by rw [← HV.out]; simp [roomOf])
    go_wp2
    go_ret2
    exact ⟨ret_room HN.out, G1.out.low⟩
  | true =>
    cases h1 : (wh == 1) with
    | false =>
      have HN := hide (show roomL L i = (loc, op) by
        have : ¬ wh = 1 := by simpa using h1
        rw [← HV.out]; simp [roomOf, this])
      go_wp2
      go_ret2
      exact ⟨ret_room HN.out, G1.out.low⟩
    | true =>
      have e1 : wh = 1 := by simpa using h1
      by_cases h0 : 0 ≤ loc
      · obtain ⟨x, rfl⟩ := Int.eq_ofNat_of_zero_le h0
        by_cases h6 : x < 6
        · have HN := hide (show roomL L i = (L.room x, op) by
            have a1 : ¬ ((x : Int) < 0 ∨ 5 < (x : Int)) := by omega
            rw [← HV.out]; simp only [roomOf, e1]; rw [if_pos (by simp), if_neg a1, Int.toNat_natCast])
          have c1 : w1.cell? ⟨w.heap.size, 129 + x * 6 + 3, none⟩ = some (.int .i64 (L.room x)) := G1.out.cod.being x 3 (by omega) (by omega)
          clear e1
          go_wp2
          go_ret2
          exact ⟨ret_room HN.out, G1.out.low⟩
        · have HN := hide (show roomL L i = (-1, false) by
            have a1 : (x : Int) < 0 ∨ 5 < (x : Int) := by omega
            rw [← HV.out]; simp only [roomOf, e1]; rw [if_pos (by simp), if_pos a1])
          clear e1
          go_wp2
          go_ret2
          exact ⟨ret_room HN.out, G1.out.low⟩
      · have HN := hide (show roomL L i = (-1, false) by
          have a1 : loc < 0 ∨ 5 < loc := by omega
          rw [← HV.out]; simp only [roomOf, e1]; rw [if_pos (by simp), if_pos a1])
        clear e1
        go_wp2
        go_ret2
        exact ⟨ret_room HN.out, G1.out.low⟩

theorem any_succ (f : Nat → Bool) (k : Nat) : (List.range (k + 1)).any f = ((List.range k).any f || f k) := by
  rw [List.range_succ, List.any_append]; simp

set_option maxRecDepth 100000 in
set_option maxHeartbeats 1000000 in
theorem isbright_any (L : Ld) (r : Int) (w : World) :
    Calls Tryz.prog 48 #[.agg L.cells, .int .i64 r] w fun e w' => e = .returned (.bool (brightL L r)) ∧ Below w.heap.size w w' := by
  by_cases h0 : 0 ≤ r
  · obtain ⟨x, rfl⟩ := Int.eq_ofNat_of_zero_le h0
    by_cases h6 : x < 6
    · have HV := hide (show brightL L (x : Int) = (!L.dark x || (List.range 9).any (shines L (x : Int))) by
        have : amg (x : Int) 6 = true := amg_mk (by omega) (by omega)
        simp [brightL, this])
      have c1 := (cod_new w L).dark x h6
      go_enter Tryz.func48, Tryz.ntmps48
      go_wp2_with (refine wl_things (.tmp 22) rfl rfl _ L rfl (cod_new w L) ?_)
      clear c1
      go_loopw [5, 24] (fun a c wr => ∃ k : Nat, k ≤ 9 ∧ c = .int .i64 k ∧ a = .bool (!L.dark x || (List.range k).any (shines L (x : Int))) ∧ GdRel L w wr) (fun _ c _ => 9 - (intOf c).toNat)
      case atStart => exact ⟨0, by omega, rfl, by simp, gd_start L w⟩
      case round =>
        obtain ⟨k, hle, rfl, rfl, R⟩ := hrel
        have HR := hide R
        clear R
        by_cases hk : k < 9
        · have HX := hide (any_succ (shines L (x : Int)) k)
          have HS := hide (show shines L (x : Int) k = ((L.kind k == 1) && L.on k && (roomL L (k : Int)).2 && ((roomL L (k : Int)).1 == (x : Int))) by
            rw [Bool.eq_iff_iff]; simp [shines])
          generalize (List.range k).any (shines L (x : Int)) = A at *
          generalize (!L.dark x) = D at *
          go_wp2_with (first | (refine wl_ithingT (.tmp 23) (.tmp 24) rfl rfl k L rfl rfl hk ?_) | (refine wl_new 28 (.tmp 7) (.tmp 27) rfl rfl _ _ rfl rfl rfl Tryz.sizeThing rfl rfl ?_) | (refine wl_land (.tmp 2) rfl rfl _ L rfl (HR.out.box _).cod ?_))
          refine (roomof_any L (k : Int) _).mono ?_
          rintro e w1 ⟨rfl, hb⟩
          have R1 := hide ((HR.out.box _).call hb)
          have k1 : w1.cell? ⟨wr.heap.size, 1, none⟩ = some (.int .i64 (L.kind k)) := by
            rw [hb.cell (by simp)]; simp
          have k4 : w1.cell? ⟨wr.heap.size, 4, none⟩ = some (.bool (L.on k)) := by
            rw [hb.cell (by simp)]; simp
          clear hb
          generalize roomL L (k : Int) = rr at *
          obtain ⟨rm, op⟩ := rr
          cases hacc : (D || A) with
          | true =>
            go_wp2
            go_roundw
            case rel => exact ⟨k + 1, by omega, by go_num, by rw [HX.out, ← Bool.or_assoc, hacc]; rfl, R1.out⟩
            case measure => simp [intOf]; omega
          | false =>
            cases h1 : (L.kind k == 1) with
            | false =>
              go_wp2
              go_roundw
              case rel => exact ⟨k + 1, by omega, by go_num, by rw [HX.out, ← Bool.or_assoc, hacc, HS.out, h1]; rfl, R1.out⟩
              case measure => simp [intOf]; omega
            | true =>
              cases h2 : L.on k with
              | false =>
                rw [h2] at k4
                go_wp2
                go_roundw
                case rel => exact ⟨k + 1, by omega, by go_num, by rw [HX.out, ← Bool.or_assoc, hacc, HS.out, h2]; simp, R1.out⟩
                case measure => simp [intOf]; omega
              | true =>
                rw [h2] at k4
                cases op with
                | false =>
                  go_wp2
                  go_roundw
                  case rel => exact ⟨k + 1, by omega, by go_num, by rw [HX.out, ← Bool.or_assoc, hacc, HS.out]; simp, R1.out⟩
                  case measure => simp [intOf]; omega
                | true =>
                  go_wp2
                  go_roundw
                  case rel => exact ⟨k + 1, by omega, by go_num, by rw [HX.out, ← Bool.or_assoc, hacc, HS.out, h1, h2]; simp, R1.out⟩
                  case measure => simp [intOf]; omega
        · have hk9 : k = 9 := by omega
          subst hk9
          go_wp2
          go_ret
          exact ⟨ret_bool (by rw [HV.out]), HR.out.low⟩
    · have HV := hide (show brightL L (x : Int) = false by
        have : amg (x : Int) 6 = false := amg_no (by omega)
        simp [brightL, this])
      go_enter Tryz.func48, Tryz.ntmps48
      go_wp2
      go_ret
      exact ⟨ret_bool HV.out.symm, (gd_start L w).low⟩
  · have HV := hide (show brightL L r = false by
      have : amg r 6 = false := amg_no (by omega)
      simp [brightL, this])
    go_enter Tryz.func48, Tryz.ntmps48
    go_wp2
    go_ret
    exact ⟨ret_bool HV.out.symm, (gd_start L w).low⟩
end Go.Proofs.YtaifjndkgfffpaaGreatDoor
/-
  The document's verbs in their memory.
-/
namespace Go.Proofs.YtaifjndkgfffpaaGreatDoor
open Go.RowKit
set_option linter.unusedVariables false

/-- The document's verbs lie where they were laid. -/
def Vr (w : World) : Prop := ∃ t fr, w.heap[(0 : Nat)]? = some (.cells vcells t fr)
theorem Vr.lt {w : World} (h : Vr w) : 0 < w.heap.size := by
  obtain ⟨t, fr, h⟩ := h; exact (Array.getElem?_eq_some_iff.1 h).1
theorem Vr.below {w w' : World} {B : Nat} (h : Vr w) (hb : Below B w w') (hB : w.heap.size ≤ B) : Vr w' := by
  have hlt := h.lt
  obtain ⟨t, fr, h⟩ := h
  exact ⟨t, fr, by rw [hb.block _ (by omega)]; exact h⟩
theorem Vr.cell {w : World} (h : Vr w) (i : Nat) (hi : i < 21) : w.cell? ⟨0, i, none⟩ = some (.string (bs (verbs.getD i []))) := by
  obtain ⟨t, fr, h⟩ := h
  simp only [World.cell?, h]
  exact vcells_get i hi

end Go.Proofs.YtaifjndkgfffpaaGreatDoor
