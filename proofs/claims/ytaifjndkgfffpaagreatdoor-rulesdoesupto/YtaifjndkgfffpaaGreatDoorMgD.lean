/-
  Whether a thing, a being, a room are good: contracts.
-/
import Derived.Test.YtaifjndkgfffpaaGreatDoorMgA
import Derived.Test.YtaifjndkgfffpaaGreatDoorMgB
import Derived.Deep.RegionHeld3
import Derived.Test.YtaifjndkgfffpaaGreatDoorMgC
import Derived.Great.BuildSlice
namespace Go.Proofs.YtaifjndkgfffpaaGreatDoor
open Go.RowKit
set_option linter.unusedVariables false
/-- A thing's kind, and where it may be On. -/
def gkind (kind wh : Int) (on : Bool) : Bool := if kind = 0 then !on else if kind = 2 then (!on || wh == 1) else (kind == 1 || kind == 3)

theorem below_box (w : World) (o : Obj) : Below w.heap.size w (w.alloc o) := (Below.refl _ _).alloc (Nat.le_refl _) _

set_option maxHeartbeats 400000 in
theorem kind_any (s : ByteArray) (kind wh loc : Int) (on : Bool) (w : World) :
    Calls Tryz.prog 26 #[.agg #[.string s, .int .i64 kind, .int .i64 wh, .int .i64 loc, .bool on]] w fun e w' => e = .returned (.bool (gkind kind wh on)) ∧ Below w.heap.size w w' := by
  by_cases h0 : kind = 0
  · subst h0
    go_enter Tryz.func26, Tryz.ntmps26
    go_wp2
    go_ret
    exact ⟨rfl, below_box _ _⟩
  · have b0 : (kind == 0) = false := by simp [h0]
    by_cases h2 : kind = 2
    · subst h2
      cases on
      all_goals
        go_enter Tryz.func26, Tryz.ntmps26
        go_wp2
        go_ret
        exact ⟨ret_bool (by simp [gkind]), below_box _ _⟩
    · have b2 : (kind == 2) = false := by simp [h2]
      have HG := hide (show gkind kind wh on = (kind == 1 || kind == 3) by unfold gkind; rw [if_neg h0, if_neg h2])
      clear h0 h2
      by_cases h1 : kind = 1
      · have b1 : (kind == 1) = true := by simp [h1]
        have H1 := hide h1
        clear h1
        go_enter Tryz.func26, Tryz.ntmps26
        go_wp2
        go_ret
        exact ⟨ret_bool (by rw [HG.out, H1.out]; rfl), below_box _ _⟩
      · have b1 : (kind == 1) = false := by simp [h1]
        clear h1
        go_enter Tryz.func26, Tryz.ntmps26
        go_wp2
        go_ret
        exact ⟨ret_bool (by rw [HG.out, b1]; rfl), below_box _ _⟩

/-- A being. -/
def gbeing (here : Bool) (room health foe : Int) : Bool :=
  if amg room 6 = false ∨ health < 0 ∨ 10 < health ∨ here ≠ decide (0 < health) then false
  else (foe == 0) || (here && amg (foe - 1) 6)

theorem amg_wrap (n : Int) (k : Int) (hk : k ≤ 100) (hn : -9223372036854775808 ≤ n) (hn' : n ≤ 9223372036854775807) : amg (wrap64 (n - 1)) k = amg (n - 1) k := by
  by_cases h : n = -9223372036854775808
  · subst h
    have e : wrap64 (-9223372036854775808 - 1) = 9223372036854775807 := by unfold wrap64; omega
    rw [e, amg_no (by omega), amg_no (by omega)]
  · congr 1
    unfold wrap64
    omega


theorem gb_no {here : Bool} {room health foe : Int} (h : amg room 6 = false ∨ health < 0 ∨ 10 < health ∨ here ≠ decide (0 < health)) : gbeing here room health foe = false := by
  unfold gbeing; rw [if_pos h]
theorem gb_yes {here : Bool} {room health foe : Int} (h1 : amg room 6 = true) (h2 : ¬ health < 0) (h3 : ¬ 10 < health) (h4 : here = decide (0 < health)) : gbeing here room health foe = ((foe == 0) || (here && amg (foe - 1) 6)) := by
  unfold gbeing; rw [if_neg]
  rintro (h | h | h | h)
  · rw [h1] at h; simp at h
  · exact h2 h
  · exact h3 h
  · exact h h4

set_option maxHeartbeats 1000000 in
theorem being_any (s : ByteArray) (here keen : Bool) (room health foe : Int) (w : World) (hn : -9223372036854775808 ≤ foe) (hn' : foe ≤ 9223372036854775807) :
    Calls Tryz.prog 25 #[.agg #[.string s, .bool here, .bool keen, .int .i64 room, .int .i64 health, .int .i64 foe]] w fun e w' => e = .returned (.bool (gbeing here room health foe)) ∧ Below w.heap.size w w' := by
  cases ha : amg room 6 with
  | false =>
    have HG := hide (gb_no (here := here) (room := room) (health := health) (foe := foe) (.inl ha))
    go_enter Tryz.func25, Tryz.ntmps25
    go_wp2_with fail
    refine (among_any room 6 _).mono ?_
    rintro e w1 ⟨rfl, hw⟩
    rw [hw, ha]
    clear hw w1 ha
    go_wp2
    go_ret
    exact ⟨ret_bool HG.out.symm, below_box _ _⟩
  | true =>
    by_cases h2 : health < 0
    · have HG := hide (gb_no (here := here) (room := room) (health := health) (foe := foe) (.inr (.inl h2)))
      go_enter Tryz.func25, Tryz.ntmps25
      go_wp2_with fail
      refine (among_any room 6 _).mono ?_
      rintro e w1 ⟨rfl, hw⟩
      rw [hw, ha]
      clear hw w1 ha
      go_wp2
      go_ret
      exact ⟨ret_bool HG.out.symm, below_box _ _⟩
    · by_cases h3 : 10 < health
      · have HG := hide (gb_no (here := here) (room := room) (health := health) (foe := foe) (.inr (.inr (.inl h3))))
        go_enter Tryz.func25, Tryz.ntmps25
        go_wp2_with fail
        refine (among_any room 6 _).mono ?_
        rintro e w1 ⟨rfl, hw⟩
        rw [hw, ha]
        clear hw w1 ha
        go_wp2
        go_ret
        exact ⟨ret_bool HG.out.symm, below_box _ _⟩
      · by_cases h4 : here = decide (0 < health)
        · have HG := hide (gb_yes (foe := foe) ha h2 h3 h4)
          have H4 := hide h4
          by_cases hp : 0 < health
          · have e4 : here = true := by rw [h4]; simp [hp]
            subst e4
            clear h4
            by_cases hf : foe = 0
            · have hb : (foe == 0) = true := by simp [hf]
              have HF := hide hf
              clear hf
              go_enter Tryz.func25, Tryz.ntmps25
              go_wp2_with fail
              refine (among_any room 6 _).mono ?_
              rintro e w1 ⟨rfl, hw⟩
              rw [hw, ha]
              clear hw w1 ha
              go_wp2
              go_ret
              exact ⟨ret_bool (by rw [HG.out, hb]; rfl), below_box _ _⟩
            · have hb : (foe == 0) = false := by simp [hf]
              clear hf
              have HW := hide (amg_wrap foe 6 (by omega) hn hn')
              go_enter Tryz.func25, Tryz.ntmps25
              go_wp2_with fail
              refine (among_any room 6 _).mono ?_
              rintro e w1 ⟨rfl, hw⟩
              rw [hw, ha]
              clear hw w1 ha
              go_wp2_with fail
              refine (among_any _ 6 _).mono ?_
              rintro e w1 ⟨rfl, hw⟩
              rw [hw]
              clear hw w1
              go_wp2
              go_ret
              exact ⟨ret_bool (by rw [HG.out, hb]; first | (rw [← HW.out]; rfl) | rfl), below_box _ _⟩
          · have e4 : here = false := by rw [h4]; simp [hp]
            subst e4
            clear h4
            by_cases hf : foe = 0
            · have hb : (foe == 0) = true := by simp [hf]
              have HF := hide hf
              clear hf
              go_enter Tryz.func25, Tryz.ntmps25
              go_wp2_with fail
              refine (among_any room 6 _).mono ?_
              rintro e w1 ⟨rfl, hw⟩
              rw [hw, ha]
              clear hw w1 ha
              go_wp2
              go_ret
              exact ⟨ret_bool (by rw [HG.out, hb]; rfl), below_box _ _⟩
            · have hb : (foe == 0) = false := by simp [hf]
              clear hf
              go_enter Tryz.func25, Tryz.ntmps25
              go_wp2_with fail
              refine (among_any room 6 _).mono ?_
              rintro e w1 ⟨rfl, hw⟩
              rw [hw, ha]
              clear hw w1 ha
              go_wp2
              go_ret
              exact ⟨ret_bool (by rw [HG.out, hb]; rfl), below_box _ _⟩
        · have HG := hide (gb_no (here := here) (room := room) (health := health) (foe := foe) (.inr (.inr (.inr h4))))
          have H4 := hide h4
          by_cases hp : 0 < health
          · have e4 : here = false := by
              cases here with
              | false => rfl
              | true => exact absurd (by simp [hp]) h4
            subst e4
            clear h4
            go_enter Tryz.func25, Tryz.ntmps25
            go_wp2_with fail
            refine (among_any room 6 _).mono ?_
            rintro e w1 ⟨rfl, hw⟩
            rw [hw, ha]
            clear hw w1 ha
            go_wp2
            go_ret
            exact ⟨ret_bool HG.out.symm, below_box _ _⟩
          · have e4 : here = true := by
              cases here with
              | true => rfl
              | false => exact absurd (by simp [hp]) h4
            have hz : decide (0 < health) = false := by simp; omega
            have hy : decide (health < 0) = false := by simp; omega
            have hx : decide (10 < health) = false := by simp; omega
            subst e4
            clear h4
            go_enter Tryz.func25, Tryz.ntmps25
            go_wp2_with fail
            refine (among_any room 6 _).mono ?_
            rintro e w1 ⟨rfl, hw⟩
            rw [hw, ha]
            clear hw w1 ha
            go_wp2
            go_ret
            exact ⟨ret_bool HG.out.symm, below_box _ _⟩
/-
  A region whose order is drawn, taken operation by operation.
-/
/-- An operation is taken first; the slot that it writes is told. -/
theorem take_at {P : Program} {md : Region.Mode} {ops : Array Oper} {Q : Exit → Act → World → Prop} {S : World → Prop} {i : Nat} {d : Option Tmp} {oi : Oper} {v : Value} {fuel : Nat} {listed : Array Bool} {a : Act} {w : World} (hi : ops[i]? = some oi) (hd : oi.dst = d)
    (hs : Region.noSelect ops = true) (hf : Region.free md ops listed i = true) (hr : (Region.ready md ops listed).contains i = true)
    (hQ : ∀ c a w, Q (.panic c) (a.put oi.dst v) w → Q (.panic c) a w) (hy : YieldsIf P ops S oi v a) (hS : S w)
    (h : wpAnyH P md ops Q S fuel (listed.setIfInBounds i true) (a.put d v) w) : wpAnyH P md ops Q S (fuel + 1) listed a w := by
  subst hd
  exact wpAnyH_take hi hs hf hr hQ hy hS h

/-- A call of a Go function, by its contract. -/
theorem tk {P : Program} {md : Region.Mode} {ops : Array Oper} {Q : Exit → Act → World → Prop} {S : World → Prop} {i : Nat} {d : Option Tmp} {oi : Oper} {v : Value} {fuel : Nat} {listed : Array Bool} {a : Act} {w : World} (hi : ops[i]? = some oi) (hd : oi.dst = d)
    (hy : YieldsIf P ops S oi v a) (hS : S w) (h : wpAnyH P md ops Q S fuel (listed.setIfInBounds i true) (a.put d v) w)
    (hs : Region.noSelect ops = true := by kernel_rfl) (hf : Region.free md ops listed i = true := by kernel_rfl) (hr : (Region.ready md ops listed).contains i = true := by kernel_rfl)
    (hQ : ∀ c a w, Q (.panic c) (a.put oi.dst v) w → Q (.panic c) a w := by exact fun _ _ _ h => h) : wpAnyH P md ops Q S (fuel + 1) listed a w := take_at hi hd hs hf hr hQ hy hS h
theorem tw {P : Program} {md : Region.Mode} {ops : Array Oper} {Q : Exit → Act → World → Prop} {S : World → Prop} {i : Nat} {d : Option Tmp} {oi : Oper} {v : Value} {fuel : Nat} {listed : Array Bool} {a : Act} {w : World} (hi : ops[i]? = some oi) (hd : oi.dst = d)
    (he : ∀ w, S w → (execOp a.eval oi).run P w = .ok (.value v) w) (hS : S w) (h : wpAnyH P md ops Q S fuel (listed.setIfInBounds i true) (a.put d v) w) (hw : Region.wanted oi (yielded ops a.tmps) = true := by rfl)
    (hs : Region.noSelect ops = true := by kernel_rfl) (hf : Region.free md ops listed i = true := by kernel_rfl) (hr : (Region.ready md ops listed).contains i = true := by kernel_rfl)
    (hQ : ∀ c a w, Q (.panic c) (a.put oi.dst v) w → Q (.panic c) a w := by exact fun _ _ _ h => h) : wpAnyH P md ops Q S (fuel + 1) listed a w := take_at hi hd hs hf hr hQ (.inl ⟨hw, he⟩) hS h
theorem sT {α : Type} (l : List α) (i : Nat) (a : α) : l.toArray.setIfInBounds i a = (l.set i a).toArray := List.setIfInBounds_toArray ..
theorem call_at {P : Program} {ops : Array Oper} {Q : Exit → Act → World → Prop} {i : Nat} {d : Option Tmp} {oi : Oper} {a : Act} {w : World} {K : Act → World → Prop} (hi : ops[i]? = some oi) (hd : oi.dst = d) (hw : Region.wanted oi (yielded ops a.tmps) = true)
    (f : FuncId) (args : Array Value) (hrun : (execOp a.eval oi).run P w = .ok (.enter f args) w) (hc : Calls P f args w fun e w' => ∃ v, e = .returned v ∧ K (a.put d v) w') : wpOp P ops Q i K a w := by
  subst hd
  unfold wpOp
  rw [hi]
  simp only
  rw [if_pos hw]
  refine .inl ?_
  unfold Oper.wp
  rw [hrun, Oper.upon_enter]
  refine hc.mono fun e w' hh => ?_
  obtain ⟨v, rfl, h⟩ := hh
  exact h

/-- The whole land is read, wherever the walk stands. -/
theorem exec_land {a : Act} {op : Oper} {w : World} (x : Operand) (ho : op.op = .load 34 x) (b : Nat) (hx : a.eval x = .pointer (some ⟨b, 0, none⟩)) {L : Ld} (hc : Cod w b L) : (execOp a.eval op).run Tryz.prog w = .ok (.value (.agg L.cells)) w := by
  unfold execOp
  simp only [ho, hx, Sem.run_bind, hc.load, Result.andThen_ok, Sem.run_pure]

/-- The whole event is read, wherever the walk stands. -/
theorem exec_event {a : Act} {op : Oper} {w : World} (x : Operand) (ho : op.op = .load 62 x) (b : Nat) (hx : a.eval x = .pointer (some ⟨b, 0, none⟩)) {E : Ev} (hc : Cev w b E) : (execOp a.eval op).run Tryz.prog w = .ok (.value (.agg E.cells)) w := by
  have hl : (Instr.loadAt 62 (.pointer (some ⟨b, 0, none⟩))).run Tryz.prog w = .ok (.agg E.cells) w := by
    simp only [Instr.loadAt, Instr.sureAddr, Sem.run_bind, Sem.run_pure, Result.andThen_ok]
    exact run_loadVar_row w b 62 62 E.cells (0, 0) _ hc Tryz.underlying62 rfl (by rw [E.size]; exact Tryz.sizeEvent)
  unfold execOp
  simp only [ho, hx, Sem.run_bind, hl, Result.andThen_ok, Sem.run_pure]
/-
  A land that is changed step by step and the row of what happened, in a block of their own: what it means that they lie there, and what turns with a step.
-/
/-- Events' cells, one behind another. -/
def evc (Es : List Ev) : List Value := Es.flatMap fun E => E.cells.toList
theorem evc_snoc (Es : List Ev) (E : Ev) : evc (Es ++ [E]) = evc Es ++ E.cells.toList := by simp [evc]

/-- A land's cells, some more, and the row. -/
def Ld.more (L : Ld) (pre : List Value) (v : Value) : Array Value := L.cells ++ (pre ++ [v]).toArray
section
variable (L : Ld) (pre : List Value) (v : Value)
theorem more_size : (L.more pre v).size = 166 + pre.length := by simp [Ld.more, L.size]; omega
theorem more_get (n : Nat) (hn : n < 165) : (L.more pre v)[n]? = some (L.cellAt n) := by
  unfold Ld.more
  rw [Array.getElem?_append_left (by rw [L.size]; exact hn), L.get n hn]
theorem more_pre (j : Nat) (hj : j < pre.length) : (L.more pre v)[165 + j]? = pre[j]? := by
  unfold Ld.more
  rw [Array.getElem?_append_right (by rw [L.size]; omega), L.size, Nat.add_sub_cancel_left, List.getElem?_toArray, List.getElem?_append_left hj]
theorem more_row : (L.more pre v)[165 + pre.length]? = some v := by
  unfold Ld.more
  rw [Array.getElem?_append_right (by rw [L.size]; omega), L.size]
  simp
theorem more_set {n : Nat} {x : Value} {L' : Ld} (hn : n < 165) (h : ∀ m, m < 165 → L'.cellAt m = if m = n then x else L.cellAt m) : (L.more pre v).setIfInBounds n x = L'.more pre v := by
  apply Array.ext_getElem?
  intro m
  rw [Array.getElem?_setIfInBounds]
  by_cases hm : m < 165
  · rw [more_get L' pre v m hm, h m hm]
    by_cases e : n = m
    · subst e; rw [if_pos rfl, if_pos (by rw [more_size]; omega), if_pos rfl]
    · rw [if_neg e, if_neg (fun h => e h.symm), more_get L pre v m hm]
  · rw [if_neg (by omega)]
    unfold Ld.more
    rw [Array.getElem?_append_right (by rw [L.size]; omega), Array.getElem?_append_right (by rw [L'.size]; omega), L.size, L'.size]
theorem more_put (u : Value) : (L.more pre v).setIfInBounds (165 + pre.length) u = L.more pre u := by
  apply Array.ext_getElem?
  intro m
  rw [Array.getElem?_setIfInBounds]
  by_cases e : 165 + pre.length = m
  · subst e; rw [if_pos rfl, if_pos (by rw [more_size]; omega), more_row]
  · rw [if_neg e]
    unfold Ld.more
    by_cases hm : m < 165
    · rw [Array.getElem?_append_left (by rw [L.size]; exact hm), Array.getElem?_append_left (by rw [L.size]; exact hm)]
    · rw [Array.getElem?_append_right (by rw [L.size]; omega), Array.getElem?_append_right (by rw [L.size]; omega), L.size]
      simp only [List.getElem?_toArray]
      by_cases hp : m - 165 < pre.length
      · rw [List.getElem?_append_left hp, List.getElem?_append_left hp]
      · rw [List.getElem?_eq_none (by simp; omega), List.getElem?_eq_none (by simp; omega)]
end

/-- The block of the row. -/
def rowB (w : World) (g o : Nat) : Option Nat := match w.cell? ⟨g, o, none⟩ with
  | some v => v.ownBlock
  | none => none

/-- A step: only that block, the row's, and new ones have turned; the row is where it was, or in a new block. -/
structure Stp (g o : Nat) (w w' : World) : Prop where
  os : w'.os = w.os
  tape : w'.tape = w.tape
  output : w'.output = w.output
  size : w.heap.size ≤ w'.heap.size
  block : ∀ k, k < w.heap.size → k ≠ g → rowB w g o ≠ some k → w'.heap[k]? = w.heap[k]?
  row : rowB w' g o = rowB w g o ∨ ∃ k, rowB w' g o = some k ∧ w.heap.size ≤ k

/-- A block that no step turns. -/
structure Kept (g o : Nat) (w : World) (k : Nat) : Prop where
  lt : k < w.heap.size
  ne : k ≠ g
  off : rowB w g o ≠ some k

section
variable {g o : Nat} {w w' w'' : World}
theorem Stp.refl (g o : Nat) (w : World) : Stp g o w w := ⟨rfl, rfl, rfl, Nat.le_refl _, fun _ _ _ _ => rfl, .inl rfl⟩
theorem Stp.kept (h : Stp g o w w') {k : Nat} (hk : Kept g o w k) : Kept g o w' k ∧ w'.heap[k]? = w.heap[k]? := by
  refine ⟨⟨Nat.lt_of_lt_of_le hk.lt h.size, hk.ne, ?_⟩, h.block k hk.lt hk.ne hk.off⟩
  rcases h.row with e | ⟨j, e, hj⟩
  · rw [e]; exact hk.off
  · rw [e]; intro e2; injection e2 with e2; have := hk.lt; omega
theorem Stp.trans (h : Stp g o w w') (k : Stp g o w' w'') : Stp g o w w'' := by
  refine ⟨k.os.trans h.os, k.tape.trans h.tape, k.output.trans h.output, Nat.le_trans h.size k.size, fun i hi hg hr => ?_, ?_⟩
  · have := h.kept ⟨hi, hg, hr⟩
    rw [k.block i this.1.lt hg this.1.off, this.2]
  · rcases k.row with e | ⟨j, e, hj⟩
    · rw [e]; exact h.row
    · exact .inr ⟨j, e, Nat.le_trans h.size hj⟩
theorem rowB_same (h : w'.heap[g]? = w.heap[g]?) : rowB w' g o = rowB w g o := by simp only [rowB, World.cell?, h]
theorem Stp.below (hb : Below w.heap.size w w') (hg : g < w.heap.size) : Stp g o w w' :=
  ⟨hb.os, hb.tape, hb.output, hb.size, fun k hk _ _ => hb.block k hk, .inl (rowB_same (hb.block g hg))⟩
end

/-- In world w, the block that was made at w0's end holds that land and that row; what was there in w0 is as it was. -/
structure Sn (T : TypeId) (pre : List Value) (w0 : World) (L : Ld) (Es : List Ev) (w : World) : Prop where
  ex : ∃ v, w.heap[w0.heap.size]? = some (.cells (L.more pre v) T (0, 0)) ∧ w.ownsRow (w0.heap.size + 1) 62 16 v Es.length (evc Es)
  low : Below w0.heap.size w0 w

section
variable {T : TypeId} {pre : List Value} {w0 w w' : World} {L L' : Ld} {Es : List Ev}
theorem Sn.lt (h : Sn T pre w0 L Es w) : w0.heap.size < w.heap.size := by
  obtain ⟨v, hv, _⟩ := h.ex
  exact (Array.getElem?_eq_some_iff.1 hv).1
theorem Sn.cell (h : Sn T pre w0 L Es w) (n : Nat) (hn : n < 165) : w.cell? ⟨w0.heap.size, n, none⟩ = some (L.cellAt n) := by
  obtain ⟨v, hv, _⟩ := h.ex
  rw [cell_of_row w _ n _ _ _ hv, more_get L pre v n hn]
theorem Sn.soft (h : Sn T pre w0 L Es w) (n : Nat) : w.frozen? ⟨w0.heap.size, n, none⟩ = false := by
  obtain ⟨v, hv, _⟩ := h.ex
  simp only [World.frozen?, hv]; simp
theorem Sn.fore (h : Sn T pre w0 L Es w) (j : Nat) (hj : j < pre.length) : w.cell? ⟨w0.heap.size, 165 + j, none⟩ = some pre[j] := by
  obtain ⟨v, hv, _⟩ := h.ex
  rw [cell_of_row w _ _ _ _ _ hv, more_pre L pre v j hj]; simp [hj]
theorem Sn.thing (h : Sn T pre w0 L Es w) (i j : Nat) (hi : i < 9) (hj : j < 5) : w.cell? ⟨w0.heap.size, 84 + i * 5 + j, none⟩ = some (L.thingCell i j) := by
  rw [h.cell _ (by omega), L.at_thing i j hi hj]
theorem Sn.being (h : Sn T pre w0 L Es w) (i j : Nat) (hi : i < 6) (hj : j < 6) : w.cell? ⟨w0.heap.size, 129 + i * 6 + j, none⟩ = some (L.beingCell i j) := by
  rw [h.cell _ (by omega), L.at_being i j hi hj]
theorem Sn.room (h : Sn T pre w0 L Es w) (r j : Nat) (hr : r < 6) (hj : j < 14) : w.cell? ⟨w0.heap.size, r * 14 + j, none⟩ = some (L.roomCell r j) := by
  rw [h.cell _ (by omega), L.at_room r j hr hj]
theorem own_below {base n : Nat} {v : Value} {xs : List Value} (h : w.ownsRow base 62 16 v n xs) (hb : Below w.heap.size w w') : w'.ownsRow base 62 16 v n xs := by
  refine ⟨h.1, ?_⟩
  rcases h.2 with hn | ⟨g, cap, cur, rfl, h1, h2, h3⟩
  · exact .inl hn
  · exact .inr ⟨g, cap, cur, rfl, h1, by rw [hb.block _ (Array.getElem?_eq_some_iff.1 h2).1]; exact h2, h3⟩
theorem Sn.below (h : Sn T pre w0 L Es w) (hb : Below w.heap.size w w') : Sn T pre w0 L Es w' := by
  obtain ⟨v, hv, ho⟩ := h.ex
  exact ⟨⟨v, by rw [hb.block _ h.lt]; exact hv, own_below ho hb⟩, h.low.trans (hb.mono h.low.size)⟩
theorem Sn.alloc (h : Sn T pre w0 L Es w) (o : Obj) : Sn T pre w0 L Es (w.alloc o) := h.below ((Below.refl _ _).alloc (Nat.le_refl _) _)
theorem Sn.drew (h : Sn T pre w0 L Es w) : Sn T pre w0 L Es w.drew := h.below ⟨rfl, rfl, rfl, Nat.le_refl _, fun _ _ => rfl⟩
theorem Sn.drewN (h : Sn T pre w0 L Es w) (n : Nat) : Sn T pre w0 L Es (w.drewN n) := h.below ⟨rfl, rfl, rfl, Nat.le_refl _, fun _ _ => rfl⟩
theorem Sn.stp (h : Sn T pre w0 L Es w) (hb : Below w.heap.size w w') (o : Nat) : Stp w0.heap.size o w w' := Stp.below hb h.lt
theorem Sn.same (h : Sn T pre w0 L Es w) (e : L.cells = L'.cells) : Sn T pre w0 L' Es w := by
  obtain ⟨v, hv, ho⟩ := h.ex
  exact ⟨⟨v, by rw [hv]; simp only [Ld.more, e], ho⟩, h.low⟩
theorem Sn.rowLt (h : Sn T pre w0 L Es w) {k : Nat} (hk : rowB w w0.heap.size (165 + pre.length) = some k) : w0.heap.size < k ∧ k < w.heap.size := by
  obtain ⟨v, hv, ho⟩ := h.ex
  have hc : w.cell? ⟨w0.heap.size, 165 + pre.length, none⟩ = some v := by rw [cell_of_row w _ _ _ _ _ hv, more_row]
  simp only [rowB, hc] at hk
  have := ho.lt k hk
  omega
/-- What is made behind is kept. -/
theorem Sn.kept (h : Sn T pre w0 L Es w) (hb : Below w.heap.size w w') {k : Nat} (hk : w.heap.size ≤ k) (hk' : k < w'.heap.size) : Kept w0.heap.size (165 + pre.length) w' k := by
  have h' := h.below hb
  refine ⟨hk', by have := h.lt; omega, fun e => ?_⟩
  have e2 : rowB w' w0.heap.size (165 + pre.length) = rowB w w0.heap.size (165 + pre.length) := rowB_same (hb.block _ h.lt)
  rw [e2] at e
  have := h.rowLt e
  omega
/-- A cell of the land is set. -/
theorem Sn.set (h : Sn T pre w0 L Es w) {n : Nat} {x : Value} (hn : n < 165) (hL : ∀ m, m < 165 → L'.cellAt m = if m = n then x else L.cellAt m) : Sn T pre w0 L' Es (w.setCell ⟨w0.heap.size, n, none⟩ x) := by
  obtain ⟨v, hv, ho⟩ := h.ex
  refine ⟨⟨v, ?_, ownsRow_setCell_below ho (by simp) x⟩, h.low.setCell (by simp) _⟩
  rw [setCell_eq_setRow w _ n _ _ _ _ hv, setRow_heap w _ _ _ _ _ hv, more_set L pre v hn hL]
theorem Stp.put {g o n : Nat} {x : Value} (hn : n ≠ o) : Stp g o w (w.setCell ⟨g, n, none⟩ x) := by
  refine ⟨rfl, rfl, rfl, by simp [World.setCell], fun k _ hk _ => Below.heap_setCell _ _ _ _ (by simpa using hk), .inl ?_⟩
  simp only [rowB]
  rw [World.cell?_setCell_other _ _ _ _ (by intro e; injection e with e1 e2; exact hn e2)]
theorem Sn.step (h : Sn T pre w0 L Es w) {n : Nat} (hn : n < 165) (x : Value) : Stp w0.heap.size (165 + pre.length) w (w.setCell ⟨w0.heap.size, n, none⟩ x) := Stp.put (by omega)
/-- The row is longer by one. -/
theorem Sn.append (h : Sn T pre w0 L Es w) {v u : Value} {E : Ev} (hv : w.heap[w0.heap.size]? = some (.cells (L.more pre v) T (0, 0))) (ho : w'.ownsRow (w0.heap.size + 1) 62 16 u (Es.length + 1) (evc Es ++ E.cells.toList))
    (hrow : w.ownsRow (w0.heap.size + 1) 62 16 v Es.length (evc Es)) (hg : w.grownBy w' v.ownBlock) (hu : u.ownBlock = v.ownBlock ∨ u.ownBlock = some w.heap.size) :
    Sn T pre w0 L (Es ++ [E]) (w'.setCell ⟨w0.heap.size, 165 + pre.length, none⟩ u) ∧ Stp w0.heap.size (165 + pre.length) w (w'.setCell ⟨w0.heap.size, 165 + pre.length, none⟩ u) := by
  have hlt := h.lt
  have hb : Below (w0.heap.size + 1) w w' := (Below.refl _ _ : Below (w0.heap.size + 1) w w).grown hg (by omega) (fun k hk => (hrow.lt k (by simpa using hk)).1)
  have hv' : w'.heap[w0.heap.size]? = some (.cells (L.more pre v) T (0, 0)) := by rw [hb.block _ (by omega)]; exact hv
  have hN : (w'.setCell ⟨w0.heap.size, 165 + pre.length, none⟩ u).heap[w0.heap.size]? = some (.cells (L.more pre u) T (0, 0)) := by
    rw [setCell_eq_setRow w' _ _ _ _ _ _ hv', setRow_heap w' _ _ _ _ _ hv', more_put]
  have hc : (w'.setCell ⟨w0.heap.size, 165 + pre.length, none⟩ u).cell? ⟨w0.heap.size, 165 + pre.length, none⟩ = some u := by rw [cell_of_row _ _ _ _ _ _ hN, more_row]
  have hc0 : w.cell? ⟨w0.heap.size, 165 + pre.length, none⟩ = some v := by rw [cell_of_row _ _ _ _ _ _ hv, more_row]
  refine ⟨⟨⟨u, hN, ?_⟩, (h.low.trans (hb.mono (by omega))).setCell (by simp) _⟩, ?_⟩
  · have e1 : (Es ++ [E]).length = Es.length + 1 := by simp
    rw [e1, evc_snoc]
    exact ownsRow_setCell_below ho (by simp) u
  · refine ⟨hb.os, hb.tape, hb.output, by simp [World.setCell]; exact hb.size, fun k hk hne hr => ?_, ?_⟩
    · rw [Below.heap_setCell _ _ _ _ (by simpa using hne)]
      refine hg.block k hk ?_
      simp only [rowB, hc0] at hr
      exact fun e => hr e.symm
    · simp only [rowB, hc, hc0]
      rcases hu with e | e
      · exact .inl e
      · exact .inr ⟨_, e, Nat.le_refl _⟩
/-- What was kept is kept, and is as it was. -/
theorem Kept.cev {g o k : Nat} {E : Ev} (h : Kept g o w k) (hs : Stp g o w w') (hc : Cev w k E) : Cev w' k E := by
  unfold Cev at hc ⊢; rw [(hs.kept h).2]; exact hc
theorem Sn.land (h : Sn T pre w0 L Es w) : w.rangeAt w0.heap.size 0 L.cells.toList := by
  intro j v hv
  have hj : j < 165 := by
    have := (List.getElem?_eq_some_iff.1 hv).1; rw [Array.length_toList, L.size] at this; exact this
  rw [Nat.zero_add, h.cell j hj, ← hv, Array.getElem?_toList, L.get j hj]
end

/-- The whole land is read out of such a block. -/
theorem wl_scene {ops : Array Oper} {rest : List Oper} {op : Oper} {a : Act} {w : World} {Q : Exit → Act → World → Prop} (x : Operand) (ho : op.op = .load 34 x) (hw : Region.wanted op (yielded ops a.tmps) = true) {T : TypeId} {pre : List Value} {w0 : World} {L : Ld} {Es : List Ev}
    (hx : a.eval x = .pointer (some ⟨w0.heap.size, 0, none⟩)) (hc : Sn T pre w0 L Es w) (h : wpList Tryz.prog ops Q rest (a.put op.dst (.agg L.cells)) w) : wpList Tryz.prog ops Q (op :: rest) a w :=
  wl_mid 34 x ho hw w0.heap.size 0 L.cells.toList _ hx hc.land Tryz.underlying34 rfl (by rw [Array.length_toList, L.size]; exact Tryz.sizeLand) (by rw [Array.toArray_toList]; exact h)
theorem exec_scene {a : Act} {op : Oper} {w : World} (x : Operand) (ho : op.op = .load 34 x) {T : TypeId} {pre : List Value} {w0 : World} {L : Ld} {Es : List Ev} (hx : a.eval x = .pointer (some ⟨w0.heap.size, 0, none⟩)) (hc : Sn T pre w0 L Es w) :
    (execOp a.eval op).run Tryz.prog w = .ok (.value (.agg L.cells)) w := by
  have hl : (Instr.loadAt 34 (.pointer (some ⟨w0.heap.size, 0, none⟩))).run Tryz.prog w = .ok (.agg L.cells) w := by
    simp only [Instr.loadAt, Instr.sureAddr, Sem.run_bind, Sem.run_pure, Result.andThen_ok]
    have := run_loadVar_mid (P := Tryz.prog) w w0.heap.size 0 34 L.cells.toList _ hc.land Tryz.underlying34 rfl (by rw [Array.length_toList, L.size]; exact Tryz.sizeLand)
    rw [Array.toArray_toList] at this; exact this
  unfold execOp
  simp only [ho, hx, Sem.run_bind, hl, Result.andThen_ok, Sem.run_pure]
/-
  What comes of what beings do: a land with one thing set; texts; what is told: plain mathematics.
-/
namespace Ld
variable (L : Ld)
def setRoom (b : Nat) (x : Int) : Ld := { L with room := fun j => if j = b then x else L.room j }
def setHealth (b : Nat) (x : Int) : Ld := { L with health := fun j => if j = b then x else L.health j }
def setFoe (b : Nat) (x : Int) : Ld := { L with foe := fun j => if j = b then x else L.foe j }
def setWh (i : Nat) (x : Int) : Ld := { L with wh := fun j => if j = i then x else L.wh j }
def setLoc (i : Nat) (x : Int) : Ld := { L with loc := fun j => if j = i then x else L.loc j }
def setOn (i : Nat) (x : Bool) : Ld := { L with on := fun j => if j = i then x else L.on j }
def setShut (r d : Nat) (x : Bool) : Ld := { L with shut := fun r' d' => if r' = r ∧ d' = d then x else L.shut r' d' }
def setName (b : Nat) (x : ByteArray) : Ld := { L with bname := fun j => if j = b then x else L.bname j }
def setHere (b : Nat) (x : Bool) : Ld := { L with here := fun j => if j = b then x else L.here j }
def setKeen (b : Nat) (x : Bool) : Ld := { L with keen := fun j => if j = b then x else L.keen j }
/-- A whole being is set. -/
def setBeing (b : Nat) (nm : ByteArray) (here keen : Bool) (room health foe : Int) : Ld :=
  { L with bname := fun j => if j = b then nm else L.bname j, here := fun j => if j = b then here else L.here j, keen := fun j => if j = b then keen else L.keen j,
           room := fun j => if j = b then room else L.room j, health := fun j => if j = b then health else L.health j, foe := fun j => if j = b then foe else L.foe j }
theorem setBeing_eq (b : Nat) (nm : ByteArray) (here keen : Bool) (room health foe : Int) : L.setBeing b nm here keen room health foe = (((((L.setName b nm).setHere b here).setKeen b keen).setRoom b room).setHealth b health).setFoe b foe := rfl
variable {L}
theorem upd_being {L' : Ld} {k j : Nat} {x : Value} (hk : k < 6) (hj : j < 6) (hr : ∀ r c, L'.roomCell r c = L.roomCell r c) (ht : ∀ i c, L'.thingCell i c = L.thingCell i c)
    (hb : ∀ i c, c < 6 → L'.beingCell i c = if i = k ∧ c = j then x else L.beingCell i c) : ∀ m, m < 165 → L'.cellAt m = if m = 129 + k * 6 + j then x else L.cellAt m := by
  intro m hm
  unfold cellAt
  by_cases h1 : m < 84
  · rw [if_pos h1, if_pos h1, if_neg (by omega), hr]
  · rw [if_neg h1, if_neg h1]
    by_cases h2 : m < 129
    · rw [if_pos h2, if_pos h2, if_neg (by omega), ht]
    · rw [if_neg h2, if_neg h2, hb _ _ (by omega)]
      by_cases e : m = 129 + k * 6 + j
      · rw [if_pos e, if_pos ⟨by omega, by omega⟩]
      · rw [if_neg e, if_neg (by omega)]
theorem upd_thing {L' : Ld} {k j : Nat} {x : Value} (hk : k < 9) (hj : j < 5) (hr : ∀ r c, L'.roomCell r c = L.roomCell r c) (hb : ∀ i c, L'.beingCell i c = L.beingCell i c)
    (ht : ∀ i c, c < 5 → L'.thingCell i c = if i = k ∧ c = j then x else L.thingCell i c) : ∀ m, m < 165 → L'.cellAt m = if m = 84 + k * 5 + j then x else L.cellAt m := by
  intro m hm
  unfold cellAt
  by_cases h1 : m < 84
  · rw [if_pos h1, if_pos h1, if_neg (by omega), hr]
  · rw [if_neg h1, if_neg h1]
    by_cases h2 : m < 129
    · rw [if_pos h2, if_pos h2, ht _ _ (by omega)]
      by_cases e : m = 84 + k * 5 + j
      · rw [if_pos e, if_pos ⟨by omega, by omega⟩]
      · rw [if_neg e, if_neg (by omega)]
    · rw [if_neg h2, if_neg h2, if_neg (by omega), hb]
theorem upd_room {L' : Ld} {k j : Nat} {x : Value} (hk : k < 6) (hj : j < 14) (ht : ∀ i c, L'.thingCell i c = L.thingCell i c) (hb : ∀ i c, L'.beingCell i c = L.beingCell i c)
    (hr : ∀ i c, c < 14 → L'.roomCell i c = if i = k ∧ c = j then x else L.roomCell i c) : ∀ m, m < 165 → L'.cellAt m = if m = k * 14 + j then x else L.cellAt m := by
  intro m hm
  unfold cellAt
  by_cases h1 : m < 84
  · rw [if_pos h1, if_pos h1, hr _ _ (by omega)]
    by_cases e : m = k * 14 + j
    · rw [if_pos e, if_pos ⟨by omega, by omega⟩]
    · rw [if_neg e, if_neg (by omega)]
  · rw [if_neg h1, if_neg h1]
    by_cases h2 : m < 129
    · rw [if_pos h2, if_pos h2, if_neg (by omega), ht]
    · rw [if_neg h2, if_neg h2, if_neg (by omega), hb]

section
variable (L)
theorem room_same {L' : Ld} (h1 : L'.rname = L.rname) (h2 : L'.dark = L.dark) (h3 : L'.exit = L.exit) (h4 : L'.shut = L.shut) : ∀ r c, L'.roomCell r c = L.roomCell r c := by
  intro r c
  match c with
  | 0 => simp [roomCell, h1]
  | 1 => simp [roomCell, h2]
  | c + 2 => simp [roomCell, h3, h4]
theorem thing_same {L' : Ld} (h1 : L'.tname = L.tname) (h2 : L'.kind = L.kind) (h3 : L'.wh = L.wh) (h4 : L'.loc = L.loc) (h5 : L'.on = L.on) : ∀ r c, L'.thingCell r c = L.thingCell r c := by
  intro r c
  match c with
  | 0 => simp [thingCell, h1]
  | 1 => simp [thingCell, h2]
  | 2 => simp [thingCell, h3]
  | 3 => simp [thingCell, h4]
  | c + 4 => simp [thingCell, h5]
theorem being_same {L' : Ld} (h1 : L'.bname = L.bname) (h2 : L'.here = L.here) (h3 : L'.keen = L.keen) (h4 : L'.room = L.room) (h5 : L'.health = L.health) (h6 : L'.foe = L.foe) : ∀ r c, L'.beingCell r c = L.beingCell r c := by
  intro r c
  match c with
  | 0 => simp [beingCell, h1]
  | 1 => simp [beingCell, h2]
  | 2 => simp [beingCell, h3]
  | 3 => simp [beingCell, h4]
  | 4 => simp [beingCell, h5]
  | c + 5 => simp [beingCell, h6]
theorem up_name (b : Nat) (hb : b < 6) (x : ByteArray) : ∀ m, m < 165 → (L.setName b x).cellAt m = if m = 129 + b * 6 then .string x else L.cellAt m :=
  upd_being hb (j := 0) (by omega) (room_same L rfl rfl rfl rfl) (thing_same L rfl rfl rfl rfl rfl) fun i c hc => by
    match c, hc with
    | 0, _ => by_cases e : i = b <;> simp [beingCell, setName, e]
    | 1, _ | 2, _ | 3, _ | 4, _ | 5, _ => simp [beingCell, setName]
theorem up_here (b : Nat) (hb : b < 6) (x : Bool) : ∀ m, m < 165 → (L.setHere b x).cellAt m = if m = 129 + b * 6 + 1 then .bool x else L.cellAt m :=
  upd_being hb (by omega) (room_same L rfl rfl rfl rfl) (thing_same L rfl rfl rfl rfl rfl) fun i c hc => by
    match c, hc with
    | 1, _ => by_cases e : i = b <;> simp [beingCell, setHere, e]
    | 0, _ | 2, _ | 3, _ | 4, _ | 5, _ => simp [beingCell, setHere]
theorem up_keen (b : Nat) (hb : b < 6) (x : Bool) : ∀ m, m < 165 → (L.setKeen b x).cellAt m = if m = 129 + b * 6 + 2 then .bool x else L.cellAt m :=
  upd_being hb (by omega) (room_same L rfl rfl rfl rfl) (thing_same L rfl rfl rfl rfl rfl) fun i c hc => by
    match c, hc with
    | 2, _ => by_cases e : i = b <;> simp [beingCell, setKeen, e]
    | 0, _ | 1, _ | 3, _ | 4, _ | 5, _ => simp [beingCell, setKeen]
theorem up_room (b : Nat) (hb : b < 6) (x : Int) : ∀ m, m < 165 → (L.setRoom b x).cellAt m = if m = 129 + b * 6 + 3 then .int .i64 x else L.cellAt m :=
  upd_being hb (by omega) (room_same L rfl rfl rfl rfl) (thing_same L rfl rfl rfl rfl rfl) fun i c hc => by
    match c, hc with
    | 3, _ => by_cases e : i = b <;> simp [beingCell, setRoom, e]
    | 0, _ | 1, _ | 2, _ | 4, _ | 5, _ => simp [beingCell, setRoom]
theorem up_health (b : Nat) (hb : b < 6) (x : Int) : ∀ m, m < 165 → (L.setHealth b x).cellAt m = if m = 129 + b * 6 + 4 then .int .i64 x else L.cellAt m :=
  upd_being hb (by omega) (room_same L rfl rfl rfl rfl) (thing_same L rfl rfl rfl rfl rfl) fun i c hc => by
    match c, hc with
    | 4, _ => by_cases e : i = b <;> simp [beingCell, setHealth, e]
    | 0, _ | 1, _ | 2, _ | 3, _ | 5, _ => simp [beingCell, setHealth]
theorem up_foe (b : Nat) (hb : b < 6) (x : Int) : ∀ m, m < 165 → (L.setFoe b x).cellAt m = if m = 129 + b * 6 + 5 then .int .i64 x else L.cellAt m :=
  upd_being hb (by omega) (room_same L rfl rfl rfl rfl) (thing_same L rfl rfl rfl rfl rfl) fun i c hc => by
    match c, hc with
    | 5, _ => by_cases e : i = b <;> simp [beingCell, setFoe, e]
    | 0, _ | 1, _ | 2, _ | 3, _ | 4, _ => simp [beingCell, setFoe]
theorem up_wh (i : Nat) (hi : i < 9) (x : Int) : ∀ m, m < 165 → (L.setWh i x).cellAt m = if m = 84 + i * 5 + 2 then .int .i64 x else L.cellAt m :=
  upd_thing hi (by omega) (room_same L rfl rfl rfl rfl) (being_same L rfl rfl rfl rfl rfl rfl) fun j c hc => by
    match c, hc with
    | 2, _ => by_cases e : j = i <;> simp [thingCell, setWh, e]
    | 0, _ | 1, _ | 3, _ | 4, _ => simp [thingCell, setWh]
theorem up_loc (i : Nat) (hi : i < 9) (x : Int) : ∀ m, m < 165 → (L.setLoc i x).cellAt m = if m = 84 + i * 5 + 3 then .int .i64 x else L.cellAt m :=
  upd_thing hi (by omega) (room_same L rfl rfl rfl rfl) (being_same L rfl rfl rfl rfl rfl rfl) fun j c hc => by
    match c, hc with
    | 3, _ => by_cases e : j = i <;> simp [thingCell, setLoc, e]
    | 0, _ | 1, _ | 2, _ | 4, _ => simp [thingCell, setLoc]
theorem up_on (i : Nat) (hi : i < 9) (x : Bool) : ∀ m, m < 165 → (L.setOn i x).cellAt m = if m = 84 + i * 5 + 4 then .bool x else L.cellAt m :=
  upd_thing hi (by omega) (room_same L rfl rfl rfl rfl) (being_same L rfl rfl rfl rfl rfl rfl) fun j c hc => by
    match c, hc with
    | 4, _ => by_cases e : j = i <;> simp [thingCell, setOn, e]
    | 0, _ | 1, _ | 2, _ | 3, _ => simp [thingCell, setOn]
theorem up_shut (r d : Nat) (hr : r < 6) (hd : d < 6) (x : Bool) : ∀ m, m < 165 → (L.setShut r d x).cellAt m = if m = r * 14 + (8 + d) then .bool x else L.cellAt m :=
  upd_room hr (by omega) (thing_same L rfl rfl rfl rfl rfl) (being_same L rfl rfl rfl rfl rfl rfl) fun j c hc => by
    match c, hc with
    | 0, _ | 1, _ => rw [if_neg (by omega)]; rfl
    | c + 2, _ =>
      simp only [roomCell, setShut]
      by_cases h6 : c < 6
      · rw [if_pos h6, if_pos h6, if_neg (by omega)]
      · rw [if_neg h6, if_neg h6]
        by_cases e : j = r ∧ c - 6 = d
        · rw [if_pos e, if_pos ⟨e.1, by omega⟩]
        · rw [if_neg e, if_neg (by omega)]
end
end Ld

/-- Whoever and whatever there is is at a place that there is; no name is too long. -/
structure Fine (L : Ld) : Prop where
  room : ∀ b, b < 6 → ∃ r : Nat, r < 6 ∧ L.room b = (r : Int)
  exit : ∀ r d, r < 6 → d < 6 → L.exit r d = 0 ∨ ∃ t : Nat, t < 6 ∧ L.exit r d = (t : Int) + 1
  foe : ∀ b, b < 6 → L.foe b = 0 ∨ ∃ c : Nat, c < 6 ∧ L.foe b = (c : Int) + 1
  health : ∀ b, b < 6 → 0 ≤ L.health b ∧ L.health b ≤ 10
  rname : ∀ r, r < 6 → (L.rname r).size ≤ 1048576
  tname : ∀ i, i < 9 → (L.tname i).size ≤ 1048576
  bname : ∀ b, b < 6 → (L.bname b).size ≤ 1048576

/-- An event of a being, with nobody else. -/
def evN (L : Ld) (kind : Int) (b : Nat) : Ev :=
  { kind := kind, room := L.room b, actor := (b : Int), other := -1, dir := 0, num := 0, who := L.bname b, whom := ⟨#[]⟩, thing := ⟨#[]⟩, text := ⟨#[]⟩, by' := fun _ => 0 }
def evW (L : Ld) (kind : Int) (b c : Nat) : Ev := { evN L kind b with other := (c : Int), whom := L.bname c }
/-- A being is told a text. -/
def tellE (L : Ld) (b : Nat) (s : ByteArray) : Ev := allE L { evN L 16 b with text := s }
def sightL (L : Ld) (b : Nat) : List Int := if brightL L (L.room b) = true then hasK L 0 (L.room b) 9 else []
def handL (L : Ld) (b : Nat) : List Int := hasK L 1 (b : Int) 9
def reachL (L : Ld) (b : Nat) : List Int := handL L b ++ sightL L b
def starT (s : Bool) : ByteArray := if s then ⟨#[42]⟩ else ⟨#[]⟩
/-- The directions in which a room has exits, the first k of them. -/
def waysK (L : Ld) (r : Nat) : Nat → ByteArray
  | 0 => ⟨#[]⟩
  | k + 1 => if L.exit r k = 0 then waysK L r k else waysK L r k ++ (⟨#[32]⟩ ++ bs (calledI (k : Int)) ++ starT (L.shut r k))
/-- Things' names, one behind another. -/
def namesK (L : Ld) : List Int → ByteArray
  | [] => ⟨#[]⟩
  | i :: q => (⟨#[32]⟩ ++ L.tname i.toNat ++ starT (L.on i.toNat)) ++ namesK L q
def nothingT : ByteArray := ⟨#[32, 110, 111, 116, 104, 105, 110, 103]⟩
def dotT : ByteArray := ⟨#[46]⟩
def listedT (L : Ld) (q : List Int) : ByteArray := (if q = [] then nothingT else namesK L q) ++ dotT
def theS : ByteArray := ⟨#[84, 104, 101, 32]⟩
def waysS : ByteArray := ⟨#[87, 97, 121, 115, 58]⟩
def hereS : ByteArray := ⟨#[72, 101, 114, 101, 32, 105, 115]⟩
def isHereS : ByteArray := ⟨#[32, 105, 115, 32, 104, 101, 114, 101, 46]⟩
def haveS : ByteArray := ⟨#[89, 111, 117, 32, 104, 97, 118, 101]⟩
def darkS : ByteArray := ⟨#[73, 116, 32, 105, 115, 32, 100, 97, 114, 107, 46]⟩
def noWayS : ByteArray := ⟨#[89, 111, 117, 32, 99, 97, 110, 110, 111, 116, 32, 103, 111, 32, 116, 104, 101, 114, 101, 46]⟩
def shutS : ByteArray := ⟨#[73, 116, 32, 105, 115, 32, 115, 104, 117, 116, 46]⟩
def noThingS : ByteArray := ⟨#[84, 104, 101, 114, 101, 32, 105, 115, 32, 110, 111, 32, 115, 117, 99, 104, 32, 116, 104, 105, 110, 103, 46]⟩
/-- Those others whom a being sees. -/
def seesO (L : Ld) (b c : Nat) : Bool := decide (c ≠ b) && seesL L (b : Int) (c : Int)
def othersK (L : Ld) (b k : Nat) : List Ev := ((List.range k).filter (seesO L b)).map fun c => tellE L b (L.bname c ++ isHereS)
/-- What is told to whoever looks. -/
def lookE (L : Ld) (b : Nat) : List Ev :=
  if brightL L (L.room b) = true then
    [tellE L b (theS ++ L.rname (L.room b).toNat ++ dotT), tellE L b (waysS ++ waysK L (L.room b).toNat 6)] ++
      (if sightL L b = [] then [] else [tellE L b (hereS ++ listedT L (sightL L b))]) ++ othersK L b 6
  else [tellE L b darkS]

theorem others_yes {L : Ld} {b k : Nat} (h : seesO L b k = true) : othersK L b (k + 1) = othersK L b k ++ [tellE L b (L.bname k ++ isHereS)] := by
  simp [othersK, List.range_succ, List.filter_append, h]
theorem others_no {L : Ld} {b k : Nat} (h : seesO L b k = false) : othersK L b (k + 1) = othersK L b k := by
  simp [othersK, List.range_succ, List.filter_append, h]
theorem others_len (L : Ld) (b k : Nat) : (othersK L b k).length ≤ k := by
  unfold othersK
  rw [List.length_map]
  exact Nat.le_trans (List.length_filter_le ..) (by simp)
theorem look_len (L : Ld) (b : Nat) : (lookE L b).length ≤ 9 := by
  unfold lookE
  have := others_len L b 6
  split
  · simp only [List.length_append, List.length_cons, List.length_nil]
    split <;> simp <;> omega
  · simp
theorem star_size (s : Bool) : (starT s).size ≤ 1 := by cases s <;> decide
theorem ba_nil_r (x : ByteArray) : x ++ (⟨#[]⟩ : ByteArray) = x := by apply ByteArray.ext; simp
theorem ba_nil_l (x : ByteArray) : (⟨#[]⟩ : ByteArray) ++ x = x := by apply ByteArray.ext; simp
theorem names_snoc (L : Ld) (q : List Int) (i : Int) : namesK L (q ++ [i]) = namesK L q ++ (⟨#[32]⟩ ++ L.tname i.toNat ++ starT (L.on i.toNat)) := by
  induction q with
  | nil => simp only [List.nil_append, namesK, ba_nil_r, ba_nil_l]
  | cons a q ih => simp only [List.cons_append, namesK, ih, ByteArray.append_assoc]
theorem has_lt {L : Ld} {wh loc : Int} {x : Int} (h : x ∈ hasK L wh loc 9) : ∃ i : Nat, x = (i : Int) ∧ i < 9 := by
  obtain ⟨i, e, hi, _⟩ := hasK_mem h; exact ⟨i, e, hi⟩
theorem sight_lt {L : Ld} {b : Nat} {x : Int} (h : x ∈ sightL L b) : ∃ i : Nat, x = (i : Int) ∧ i < 9 := by
  unfold sightL at h
  split at h
  · exact has_lt h
  · simp at h
theorem hand_lt {L : Ld} {b : Nat} {x : Int} (h : x ∈ handL L b) : ∃ i : Nat, x = (i : Int) ∧ i < 9 := has_lt h
theorem sight_len (L : Ld) (b : Nat) : (sightL L b).length ≤ 9 := by
  unfold sightL
  split
  · exact hasK_len ..
  · simp
theorem hand_len (L : Ld) (b : Nat) : (handL L b).length ≤ 9 := hasK_len ..
/-
  What a drawn region's operations come to that write or make memory; what holds while an event is laid at the row's end.
-/
/-- An operation that comes to a value, and may turn the world. -/
theorem run_at {P : Program} {ops : Array Oper} {Q : Exit → Act → World → Prop} {i : Nat} {d : Option Tmp} {oi : Oper} {a : Act} {w w' : World} {v : Value} {K : Act → World → Prop} (hi : ops[i]? = some oi) (hd : oi.dst = d) (hw : Region.wanted oi (yielded ops a.tmps) = true)
    (hrun : (execOp a.eval oi).run P w = .ok (.value v) w') (h : K (a.put d v) w') : wpOp P ops Q i K a w := by
  subst hd
  unfold wpOp
  rw [hi]
  simp only
  rw [if_pos hw]
  refine .inl ?_
  unfold Oper.wp
  rw [hrun]
  exact h

/-- An operation that hands nothing on. -/
theorem skip_at {P : Program} {ops : Array Oper} {Q : Exit → Act → World → Prop} {i : Nat} {d : Option Tmp} {oi : Oper} {a : Act} {w w' : World} {K : Act → World → Prop} (hi : ops[i]? = some oi) (hd : oi.dst = d) (hw : Region.wanted oi (yielded ops a.tmps) = true)
    (hrun : (execOp a.eval oi).run P w = .ok .skip w') (h : K (a.put d undef) w') : wpOp P ops Q i K a w := by
  subst hd
  unfold wpOp
  rw [hi]
  simp only
  rw [if_pos hw]
  refine .inl ?_
  unfold Oper.wp
  rw [hrun]
  exact h

def zeroEv : Ev := { kind := 0, room := 0, actor := 0, other := 0, dir := 0, num := 0, who := ⟨#[]⟩, whom := ⟨#[]⟩, thing := ⟨#[]⟩, text := ⟨#[]⟩, by' := fun _ => 0 }
theorem Tryz.infoEv : (Tryz.prog.info? 62).map (fun i => (i.zero, i.size, i.bytes)) = some (some (.agg zeroEv.cells), 16, 160) := by kernel_rfl
theorem fill_event (E : Ev) : Instr.fill (fun i => some (i * 16, 16)) ((Array.range (1 * 16)).map ((Value.agg zeroEv.cells).cells[· % (Value.agg zeroEv.cells).cells.size]!)) [(0, .agg E.cells)] = some E.cells := by kernel_rfl
theorem shapeE {w : World} {base n : Nat} {v : Value} {xs : List Value} (h : w.ownsRow base 62 16 v n xs) : ∃ (av : Option Addr) (cap : Nat), v = .slice av n cap := by
  rcases h.2 with ⟨rfl, rfl⟩ | ⟨g, cap, cur, rfl, _⟩
  · exact ⟨_, _, rfl⟩
  · exact ⟨_, _, rfl⟩

/-- A row of one event is made. -/
theorem exec_row {a : Act} {op : Oper} {w : World} (x : Operand) (ho : op.op = .buildSlice 37 1 #[(0, x)]) {E : Ev} (hx : a.eval x = .agg E.cells) :
    (execOp a.eval op).run Tryz.prog w = .ok (.value (.slice (some ⟨w.heap.size, 0, none⟩) 1 1)) (w.alloc (.cells E.cells 62)) := by
  obtain ⟨i, hi, hz, hs, hb⟩ := info_parts Tryz.infoEv
  have := run_buildSlice (P := Tryz.prog) w 37 62 1 #[(0, .agg E.cells)] E.cells i _ Tryz.underlying37 hi hz (by rw [hs]; decide) (by rw [hs]; decide) (by rw [hs]; exact fill_event E)
  unfold execOp
  simp only [ho, Sem.run_bind, List.map_toArray, List.map_cons, List.map_nil, hx, this, Result.andThen_ok, Sem.run_pure]

/-- A row of one event is laid at a row's end. -/
theorem exec_append {w : World} (ty : TypeId) {base : Nat} {v : Value} {Es : List Ev} {E : Ev} {k : Nat}
    (hown : w.ownsRow base 62 16 v Es.length (evc Es)) (hk : w.heap[k]? = some (.cells E.cells 62 (0, 0))) (hlen : Es.length ≤ 1000000) (hbase : base ≤ w.heap.size) :
    ∃ u w', (∀ (a : Act) (op : Oper) (s x : Operand), op.op = .call { callee := .builtin .append, args := #[s, x], argTypes := #[37, 37] } → op.type = ty → a.eval s = v → a.eval x = .slice (some ⟨k, 0, none⟩) 1 1 → (execOp a.eval op).run Tryz.prog w = .ok (.value u) w') ∧
      w'.ownsRow base 62 16 u (Es.length + 1) (evc Es ++ E.cells.toList) ∧ w.grownBy w' v.ownBlock ∧ (u.ownBlock = v.ownBlock ∨ u.ownBlock = some w.heap.size) := by
  obtain ⟨i, hi, hz, hsz, hb⟩ := info_parts Tryz.infoEv
  obtain ⟨u, w', hr, h1, h2, h3, h4⟩ := run_append_own_at (P := Tryz.prog) (w := w) base 37 ty 62 i _ 16 160 Tryz.underlying37 hi hz hsz hb rfl (by decide) v Es.length (evc Es) hown ⟨k, 0, none⟩ 1 1 E.cells.toList (by rw [Array.length_toList, Ev.size])
    (fun j y hj => by
      rw [Addr.add_mid, Nat.zero_add, cell_of_row w k j _ _ _ hk]
      simpa using hj)
    (fun y hy => (Array.all_eq_true_iff_forall_mem.1 (Ev.one E)) y (by simpa using hy)) (by unfold maxLen; omega) (by omega) hbase
  refine ⟨u, w', fun a op s x ho hty hs hx => ?_, h1, h2, h4⟩
  subst hty
  unfold execOp
  simp only [ho, resolve, invoke, builtin, Sem.run_bind, Sem.run_pure, Result.andThen_ok, List.map_toArray, List.map_cons, List.map_nil, hs, hx, hr]

theorem exec_land' {a : Act} {op : Oper} {w : World} (x : Operand) (ho : op.op = .load 34 x) {g : Nat} {L : Ld} (hx : a.eval x = .pointer (some ⟨g, 0, none⟩)) (hc : w.rangeAt g 0 L.cells.toList) :
    (execOp a.eval op).run Tryz.prog w = .ok (.value (.agg L.cells)) w := by
  have hl : (Instr.loadAt 34 (.pointer (some ⟨g, 0, none⟩))).run Tryz.prog w = .ok (.agg L.cells) w := by
    simp only [Instr.loadAt, Instr.sureAddr, Sem.run_bind, Sem.run_pure, Result.andThen_ok]
    have := run_loadVar_mid (P := Tryz.prog) w g 0 34 L.cells.toList _ hc Tryz.underlying34 rfl (by rw [Array.length_toList, L.size]; exact Tryz.sizeLand)
    rw [Array.toArray_toList] at this; exact this
  unfold execOp
  simp only [ho, hx, Sem.run_bind, hl, Result.andThen_ok, Sem.run_pure]

/-- What the region's loads read: the land, and the event. -/
structure Hp (g : Nat) (L : Ld) (k : Nat) (E : Ev) (W : World) : Prop where
  land : W.rangeAt g 0 L.cells.toList
  cev : Cev W k E
/-- All, until the row is stored. -/
structure Hq (T : TypeId) (pre : List Value) (w0 : World) (L : Ld) (Es : List Ev) (v : Value) (E : Ev) (w W : World) : Prop where
  blk : W.heap[w0.heap.size]? = some (.cells (L.more pre v) T (0, 0))
  own : W.ownsRow (w0.heap.size + 1) 62 16 v Es.length (evc Es)
  cev : Cev W w.heap.size E
  low : Below w0.heap.size w0 W
  bel : Below w.heap.size w W
section
variable {T : TypeId} {pre : List Value} {w0 w W W' : World} {L : Ld} {Es : List Ev} {v u : Value} {E F : Ev}
theorem Hq.sn (h : Hq T pre w0 L Es v E w W) : Sn T pre w0 L Es W := ⟨⟨v, h.blk, h.own⟩, h.low⟩
theorem Hq.hp (h : Hq T pre w0 L Es v E w W) : Hp w0.heap.size L w.heap.size E W := ⟨h.sn.land, h.cev⟩
theorem Hq.call (h : Hq T pre w0 L Es v E w W) (hb : Below W.heap.size W W') : Hq T pre w0 L Es v E w W' :=
  ⟨by rw [hb.block _ h.sn.lt]; exact h.blk, own_below h.own hb, h.cev.behind hb (Nat.le_refl _), h.low.trans (hb.mono h.low.size), h.bel.trans (hb.mono h.bel.size)⟩
theorem Hq.row (h : Hq T pre w0 L Es v E w W) : W.cell? ⟨w0.heap.size, 165 + pre.length, none⟩ = some v := by rw [cell_of_row W _ _ _ _ _ h.blk, more_row]
theorem hq_start (h : Sn T pre w0 L Es w) (E : Ev) : ∃ v, Hq T pre w0 L Es v E w (w.alloc (.cells E.cells 62)).drew ∧ (v.ownBlock = none ∨ ∃ k, v.ownBlock = some k ∧ k < w.heap.size) := by
  obtain ⟨v, hv, ho⟩ := h.ex
  have hb : Below w.heap.size w (w.alloc (.cells E.cells 62)).drew := ((Below.refl _ _).alloc (Nat.le_refl _) _).drew
  refine ⟨v, ⟨by rw [hb.block _ h.lt]; exact hv, own_below ho hb, cev_new w E, h.low.trans (hb.mono h.low.size), hb⟩, ?_⟩
  cases hx : v.ownBlock with
  | none => exact .inl rfl
  | some k => exact .inr ⟨k, rfl, (ho.lt k hx).2⟩
/-- Behind the append. -/
theorem Hq.grown (h : Hq T pre w0 L Es v E w W) (hv : v.ownBlock = none ∨ ∃ k, v.ownBlock = some k ∧ k < w.heap.size) (hg : W.grownBy W' v.ownBlock) :
    Hp w0.heap.size L w.heap.size E W' ∧ W'.heap[w0.heap.size]? = some (.cells (L.more pre v) T (0, 0)) := by
  have hlt := h.sn.lt
  have e1 : W'.heap[w0.heap.size]? = W.heap[w0.heap.size]? := hg.block _ hlt (fun e => by have := h.own.lt _ e.symm; omega)
  have e2 : W'.heap[w.heap.size]? = W.heap[w.heap.size]? := hg.block _ h.cev.lt (fun e => by
    rcases hv with hv | ⟨k, hk, hl⟩
    · rw [hv] at e; simp at e
    · rw [hk] at e; injection e with e; omega)
  have h1 : W'.heap[w0.heap.size]? = some (.cells (L.more pre v) T (0, 0)) := by rw [e1]; exact h.blk
  refine ⟨⟨?_, by unfold Cev; rw [e2]; exact h.cev⟩, h1⟩
  intro j x hx
  have := h.sn.land j x hx
  rw [← this]
  simp only [World.cell?, e1]
/-- Behind the store. -/
theorem Hp.put {g k o : Nat} (h : Hp g L k E W) (ho : 165 ≤ o) (hk : k ≠ g) (x : Value) : Hp g L k E (W.setCell ⟨g, o, none⟩ x) := by
  refine ⟨fun j y hy => ?_, h.cev.other hk _ _⟩
  have hj : j < 165 := by
    have := (List.getElem?_eq_some_iff.1 hy).1; rw [Array.length_toList, L.size] at this; exact this
  rw [World.cell?_setCell_other _ _ _ _ (by intro e; injection e with e1 e2; omega)]
  exact h.land j y hy
end
end Go.Proofs.YtaifjndkgfffpaaGreatDoor
