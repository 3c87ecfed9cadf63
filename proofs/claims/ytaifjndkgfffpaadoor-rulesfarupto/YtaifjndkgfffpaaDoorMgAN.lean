/-
  A region whose order is drawn, taken operation by operation.
-/
import Derived.Test.YtaifjndkgfffpaaDoorMgAF
import Derived.Deep.RegionHeld3
import Derived.Test.YtaifjndkgfffpaaDoorRuP
import Derived.Great.BuildSlice
import Derived.Test.YtaifjndkgfffpaaDoorMgAD
namespace Go.Proofs.YtaifjndkgfffpaaDoor
open Go.RowKit
set_option linter.unusedVariables false

/-- An operation is taken first; the slot that it writes is told. -/
theorem take_at {P : Program} {md : Region.Mode} {ops : Array Oper} {Q : Exit → Act → World → Prop} {S : World → Prop} {i : Nat} {d : Option Tmp} {oi : Oper} {v : Value} {fuel : Nat} {listed : Array Bool} {a : Act} {w : World} (hi : ops[i]? = some oi) (hd : oi.dst = d)
    (hs : Region.noSelect ops = true) (hf : Region.free md ops listed i = true) (hr : (Region.ready md ops listed).contains i = true)
    (hQ : ∀ c a w, Q (.panic c) (a.put oi.dst v) w → Q (.panic c) a w) (hy : YieldsIf P ops S oi v a) (hS : S w)
    (h : wpAnyH P md ops Q S fuel (listed.setIfInBounds i true) (a.put d v) w) : wpAnyH P md ops Q S (fuel + 1) listed a w := by
  subst hd
  exact wpAnyH_take hi hs hf hr hQ hy hS h

/-- A call of a Go function, by its contract. -/
theorem call_at {P : Program} {ops : Array Oper} {Q : Exit → Act → World → Prop} {i : Nat} {d : Option Tmp} {oi : Oper} {a : Act} {w : World} {K : Act → World → Prop} (hi : ops[i]? = some oi) (hd : oi.dst = d) (hw : Region.wanted oi (yielded ops a.tmps) = true)
    (f : FuncId) (args : Array Value) (hrun : (execOp a.eval oi).run P w = .ok (.enter f args) w) (hc : Calls P f args w fun e w' => ∃ v, e = .returned v ∧ K (a.put d v) w') : wpOp P ops Q i K a w := by
  subst hd
  unfold wpOp
  rw [hi]
  simp only
  rw [if_pos hw]
  refine .inl ?_
  unfold Oper.wp
  rw [hrun, Oper.upon_enter]
  refine hc.mono fun e w' hh => ?_
  obtain ⟨v, rfl, h⟩ := hh
  exact h

/-- The whole land is read, wherever the walk stands. -/
theorem exec_land {a : Act} {op : Oper} {w : World} (x : Operand) (ho : op.op = .load 34 x) (b : Nat) (hx : a.eval x = .pointer (some ⟨b, 0, none⟩)) {L : Ld} (hc : Cod w b L) : (execOp a.eval op).run Tryd.prog w = .ok (.value (.agg L.cells)) w := by
  unfold execOp
  simp only [ho, hx, Sem.run_bind, hc.load, Result.andThen_ok, Sem.run_pure]

/-- The whole event is read, wherever the walk stands. -/
theorem exec_event {a : Act} {op : Oper} {w : World} (x : Operand) (ho : op.op = .load 52 x) (b : Nat) (hx : a.eval x = .pointer (some ⟨b, 0, none⟩)) {E : Ev} (hc : Cev w b E) : (execOp a.eval op).run Tryd.prog w = .ok (.value (.agg E.cells)) w := by
  have hl : (Instr.loadAt 52 (.pointer (some ⟨b, 0, none⟩))).run Tryd.prog w = .ok (.agg E.cells) w := by
    simp only [Instr.loadAt, Instr.sureAddr, Sem.run_bind, Sem.run_pure, Result.andThen_ok]
    exact run_loadVar_row w b 52 52 E.cells (0, 0) _ hc Tryd.underlying52 rfl (by rw [E.size]; exact Tryd.sizeEvent)
  unfold execOp
  simp only [ho, hx, Sem.run_bind, hl, Result.andThen_ok, Sem.run_pure]
end Go.Proofs.YtaifjndkgfffpaaDoor
/-
  What a drawn region's operations come to that write or make memory; what holds while an event is laid at the row's end.
-/
namespace Go.Proofs.YtaifjndkgfffpaaDoor
open Go.RowKit
set_option linter.unusedVariables false

/-- An operation that comes to a value, and may turn the world. -/
theorem run_at {P : Program} {ops : Array Oper} {Q : Exit → Act → World → Prop} {i : Nat} {d : Option Tmp} {oi : Oper} {a : Act} {w w' : World} {v : Value} {K : Act → World → Prop} (hi : ops[i]? = some oi) (hd : oi.dst = d) (hw : Region.wanted oi (yielded ops a.tmps) = true)
    (hrun : (execOp a.eval oi).run P w = .ok (.value v) w') (h : K (a.put d v) w') : wpOp P ops Q i K a w := by
  subst hd
  unfold wpOp
  rw [hi]
  simp only
  rw [if_pos hw]
  refine .inl ?_
  unfold Oper.wp
  rw [hrun]
  exact h

/-- An operation that hands nothing on. -/
theorem skip_at {P : Program} {ops : Array Oper} {Q : Exit → Act → World → Prop} {i : Nat} {d : Option Tmp} {oi : Oper} {a : Act} {w w' : World} {K : Act → World → Prop} (hi : ops[i]? = some oi) (hd : oi.dst = d) (hw : Region.wanted oi (yielded ops a.tmps) = true)
    (hrun : (execOp a.eval oi).run P w = .ok .skip w') (h : K (a.put d undef) w') : wpOp P ops Q i K a w := by
  subst hd
  unfold wpOp
  rw [hi]
  simp only
  rw [if_pos hw]
  refine .inl ?_
  unfold Oper.wp
  rw [hrun]
  exact h

def zeroEv : Ev := { kind := 0, room := 0, actor := 0, other := 0, dir := 0, num := 0, who := ⟨#[]⟩, whom := ⟨#[]⟩, thing := ⟨#[]⟩, text := ⟨#[]⟩, by' := fun _ => 0 }
theorem Tryd.infoEv : (Tryd.prog.info? 52).map (fun i => (i.zero, i.size, i.bytes)) = some (some (.agg zeroEv.cells), 16, 160) := by kernel_rfl
theorem fill_event (E : Ev) : Instr.fill (fun i => some (i * 16, 16)) ((Array.range (1 * 16)).map ((Value.agg zeroEv.cells).cells[· % (Value.agg zeroEv.cells).cells.size]!)) [(0, .agg E.cells)] = some E.cells := by kernel_rfl
theorem shapeE {w : World} {base n : Nat} {v : Value} {xs : List Value} (h : w.ownsRow base 52 16 v n xs) : ∃ (av : Option Addr) (cap : Nat), v = .slice av n cap := by
  rcases h.2 with ⟨rfl, rfl⟩ | ⟨g, cap, cur, rfl, _⟩
  · exact ⟨_, _, rfl⟩
  · exact ⟨_, _, rfl⟩

/-- A row of one event is made. -/
theorem exec_row {a : Act} {op : Oper} {w : World} (x : Operand) (ho : op.op = .buildSlice 35 1 #[(0, x)]) {E : Ev} (hx : a.eval x = .agg E.cells) :
    (execOp a.eval op).run Tryd.prog w = .ok (.value (.slice (some ⟨w.heap.size, 0, none⟩) 1 1)) (w.alloc (.cells E.cells 52)) := by
  obtain ⟨i, hi, hz, hs, hb⟩ := info_parts Tryd.infoEv
  have := run_buildSlice (P := Tryd.prog) w 35 52 1 #[(0, .agg E.cells)] E.cells i _ Tryd.underlying35 hi hz (by rw [hs]; decide) (by rw [hs]; decide) (by rw [hs]; exact fill_event E)
  unfold execOp
  simp only [ho, Sem.run_bind, List.map_toArray, List.map_cons, List.map_nil, hx, this, Result.andThen_ok, Sem.run_pure]

/-- A row of one event is laid at a row's end. -/
theorem exec_append {w : World} (ty : TypeId) {base : Nat} {v : Value} {Es : List Ev} {E : Ev} {k : Nat}
    (hown : w.ownsRow base 52 16 v Es.length (evc Es)) (hk : w.heap[k]? = some (.cells E.cells 52 (0, 0))) (hlen : Es.length ≤ 1000000) (hbase : base ≤ w.heap.size) :
    ∃ u w', (∀ (a : Act) (op : Oper) (s x : Operand), op.op = .call { callee := .builtin .append, args := #[s, x], argTypes := #[35, 35] } → op.type = ty → a.eval s = v → a.eval x = .slice (some ⟨k, 0, none⟩) 1 1 → (execOp a.eval op).run Tryd.prog w = .ok (.value u) w') ∧
      w'.ownsRow base 52 16 u (Es.length + 1) (evc Es ++ E.cells.toList) ∧ w.grownBy w' v.ownBlock ∧ (u.ownBlock = v.ownBlock ∨ u.ownBlock = some w.heap.size) := by
  obtain ⟨i, hi, hz, hsz, hb⟩ := info_parts Tryd.infoEv
  obtain ⟨u, w', hr, h1, h2, h3, h4⟩ := run_append_own_at (P := Tryd.prog) (w := w) base 35 ty 52 i _ 16 160 Tryd.underlying35 hi hz hsz hb rfl (by decide) v Es.length (evc Es) hown ⟨k, 0, none⟩ 1 1 E.cells.toList (by rw [Array.length_toList, Ev.size])
    (fun j y hj => by
      rw [Addr.add_mid, Nat.zero_add, cell_of_row w k j _ _ _ hk]
      simpa using hj)
    (fun y hy => (Array.all_eq_true_iff_forall_mem.1 (Ev.one E)) y (by simpa using hy)) (by unfold maxLen; omega) (by omega) hbase
  refine ⟨u, w', fun a op s x ho hty hs hx => ?_, h1, h2, h4⟩
  subst hty
  unfold execOp
  simp only [ho, resolve, invoke, builtin, Sem.run_bind, Sem.run_pure, Result.andThen_ok, List.map_toArray, List.map_cons, List.map_nil, hs, hx, hr]

theorem exec_land' {a : Act} {op : Oper} {w : World} (x : Operand) (ho : op.op = .load 34 x) {g : Nat} {L : Ld} (hx : a.eval x = .pointer (some ⟨g, 0, none⟩)) (hc : w.rangeAt g 0 L.cells.toList) :
    (execOp a.eval op).run Tryd.prog w = .ok (.value (.agg L.cells)) w := by
  have hl : (Instr.loadAt 34 (.pointer (some ⟨g, 0, none⟩))).run Tryd.prog w = .ok (.agg L.cells) w := by
    simp only [Instr.loadAt, Instr.sureAddr, Sem.run_bind, Sem.run_pure, Result.andThen_ok]
    have := run_loadVar_mid (P := Tryd.prog) w g 0 34 L.cells.toList _ hc Tryd.underlying34 rfl (by rw [Array.length_toList, L.size]; exact Tryd.sizeLand)
    rw [Array.toArray_toList] at this; exact this
  unfold execOp
  simp only [ho, hx, Sem.run_bind, hl, Result.andThen_ok, Sem.run_pure]

/-- What the region's loads read: the land, and the event. -/
structure Hp (g : Nat) (L : Ld) (k : Nat) (E : Ev) (W : World) : Prop where
  land : W.rangeAt g 0 L.cells.toList
  cev : Cev W k E
/-- All, until the row is stored. -/
structure Hq (T : TypeId) (pre : List Value) (w0 : World) (L : Ld) (Es : List Ev) (v : Value) (E : Ev) (w W : World) : Prop where
  blk : W.heap[w0.heap.size]? = some (.cells (L.more pre v) T (0, 0))
  own : W.ownsRow (w0.heap.size + 1) 52 16 v Es.length (evc Es)
  cev : Cev W w.heap.size E
  low : Below w0.heap.size w0 W
  bel : Below w.heap.size w W
section
variable {T : TypeId} {pre : List Value} {w0 w W W' : World} {L : Ld} {Es : List Ev} {v u : Value} {E F : Ev}
theorem Hq.sn (h : Hq T pre w0 L Es v E w W) : Sn T pre w0 L Es W := ⟨⟨v, h.blk, h.own⟩, h.low⟩
theorem Hq.hp (h : Hq T pre w0 L Es v E w W) : Hp w0.heap.size L w.heap.size E W := ⟨h.sn.land, h.cev⟩
theorem Hq.call (h : Hq T pre w0 L Es v E w W) (hb : Below W.heap.size W W') : Hq T pre w0 L Es v E w W' :=
  ⟨by rw [hb.block _ h.sn.lt]; exact h.blk, own_below h.own hb, h.cev.behind hb (Nat.le_refl _), h.low.trans (hb.mono h.low.size), h.bel.trans (hb.mono h.bel.size)⟩
theorem Hq.row (h : Hq T pre w0 L Es v E w W) : W.cell? ⟨w0.heap.size, 165 + pre.length, none⟩ = some v := by rw [cell_of_row W _ _ _ _ _ h.blk, more_row]
theorem hq_start (h : Sn T pre w0 L Es w) (E : Ev) : ∃ v, Hq T pre w0 L Es v E w (w.alloc (.cells E.cells 52)).drew ∧ (v.ownBlock = none ∨ ∃ k, v.ownBlock = some k ∧ k < w.heap.size) := by
  obtain ⟨v, hv, ho⟩ := h.ex
  have hb : Below w.heap.size w (w.alloc (.cells E.cells 52)).drew := ((Below.refl _ _).alloc (Nat.le_refl _) _).drew
  refine ⟨v, ⟨by rw [hb.block _ h.lt]; exact hv, own_below ho hb, cev_new w E, h.low.trans (hb.mono h.low.size), hb⟩, ?_⟩
  cases hx : v.ownBlock with
  | none => exact .inl rfl
  | some k => exact .inr ⟨k, rfl, (ho.lt k hx).2⟩
/-- Behind the append. -/
theorem Hq.grown (h : Hq T pre w0 L Es v E w W) (hv : v.ownBlock = none ∨ ∃ k, v.ownBlock = some k ∧ k < w.heap.size) (hg : W.grownBy W' v.ownBlock) :
    Hp w0.heap.size L w.heap.size E W' ∧ W'.heap[w0.heap.size]? = some (.cells (L.more pre v) T (0, 0)) := by
  have hlt := h.sn.lt
  have e1 : W'.heap[w0.heap.size]? = W.heap[w0.heap.size]? := hg.block _ hlt (fun e => by have := h.own.lt _ e.symm; omega)
  have e2 : W'.heap[w.heap.size]? = W.heap[w.heap.size]? := hg.block _ h.cev.lt (fun e => by
    rcases hv with hv | ⟨k, hk, hl⟩
    · rw [hv] at e; simp at e
    · rw [hk] at e; injection e with e; omega)
  have h1 : W'.heap[w0.heap.size]? = some (.cells (L.more pre v) T (0, 0)) := by rw [e1]; exact h.blk
  refine ⟨⟨?_, by unfold Cev; rw [e2]; exact h.cev⟩, h1⟩
  intro j x hx
  have := h.sn.land j x hx
  rw [← this]
  simp only [World.cell?, e1]
/-- Behind the store. -/
theorem Hp.put {g k o : Nat} (h : Hp g L k E W) (ho : 165 ≤ o) (hk : k ≠ g) (x : Value) : Hp g L k E (W.setCell ⟨g, o, none⟩ x) := by
  refine ⟨fun j y hy => ?_, h.cev.other hk _ _⟩
  have hj : j < 165 := by
    have := (List.getElem?_eq_some_iff.1 hy).1; rw [Array.length_toList, L.size] at this; exact this
  rw [World.cell?_setCell_other _ _ _ _ (by intro e; injection e with e1 e2; omega)]
  exact h.land j y hy
end
end Go.Proofs.YtaifjndkgfffpaaDoor
/-
  Whether a thing, a being, a room are good: contracts.
-/
namespace Go.Proofs.YtaifjndkgfffpaaDoor
open Go.RowKit
set_option linter.unusedVariables false

/-- A thing's kind, and where it may be On. -/
def gkind (kind wh : Int) (on : Bool) : Bool := if kind = 0 then !on else if kind = 2 then (!on || wh == 1) else (kind == 1 || kind == 3)

theorem below_box (w : World) (o : Obj) : Below w.heap.size w (w.alloc o) := (Below.refl _ _).alloc (Nat.le_refl _) _

set_option maxHeartbeats 400000 in
theorem kind_any (s : ByteArray) (kind wh loc : Int) (on : Bool) (w : World) :
    Calls Tryd.prog 35 #[.agg #[.string s, .int .i64 kind, .int .i64 wh, .int .i64 loc, .bool on]] w fun e w' => e = .returned (.bool (gkind kind wh on)) ∧ Below w.heap.size w w' := by
  by_cases h0 : kind = 0
  · subst h0
    go_enter Tryd.func35, Tryd.ntmps35
    go_wp2
    go_ret
    exact ⟨rfl, below_box _ _⟩
  · have b0 : (kind == 0) = false := by simp [h0]
    by_cases h2 : kind = 2
    · subst h2
      cases on
      all_goals
        go_enter Tryd.func35, Tryd.ntmps35
        go_wp2
        go_ret
        exact ⟨ret_bool (by simp [gkind]), below_box _ _⟩
    · have b2 : (kind == 2) = false := by simp [h2]
      have HG := hide (show gkind kind wh on = (kind == 1 || kind == 3) by unfold gkind; rw [if_neg h0, if_neg h2])
      clear h0 h2
      by_cases h1 : kind = 1
      · have b1 : (kind == 1) = true := by simp [h1]
        have H1 := hide h1
        clear h1
        go_enter Tryd.func35, Tryd.ntmps35
        go_wp2
        go_ret
        exact ⟨ret_bool (by rw [HG.out, H1.out]; rfl), below_box _ _⟩
      · have b1 : (kind == 1) = false := by simp [h1]
        clear h1
        go_enter Tryd.func35, Tryd.ntmps35
        go_wp2
        go_ret
        exact ⟨ret_bool (by rw [HG.out, b1]; rfl), below_box _ _⟩

/-- A being. -/
def gbeing (here : Bool) (room health foe : Int) : Bool :=
  if amg room 6 = false ∨ health < 0 ∨ 10 < health ∨ here ≠ decide (0 < health) then false
  else (foe == 0) || (here && amg (foe - 1) 6)

theorem amg_wrap (n : Int) (k : Int) (hk : k ≤ 100) (hn : -9223372036854775808 ≤ n) (hn' : n ≤ 9223372036854775807) : amg (wrap64 (n - 1)) k = amg (n - 1) k := by
  by_cases h : n = -9223372036854775808
  · subst h
    have e : wrap64 (-9223372036854775808 - 1) = 9223372036854775807 := by unfold wrap64; omega
    rw [e, amg_no (by omega), amg_no (by omega)]
  · congr 1
    unfold wrap64
    omega


theorem gb_no {here : Bool} {room health foe : Int} (h : amg room 6 = false ∨ health < 0 ∨ 10 < health ∨ here ≠ decide (0 < health)) : gbeing here room health foe = false := by
  unfold gbeing; rw [if_pos h]
theorem gb_yes {here : Bool} {room health foe : Int} (h1 : amg room 6 = true) (h2 : ¬ health < 0) (h3 : ¬ 10 < health) (h4 : here = decide (0 < health)) : gbeing here room health foe = ((foe == 0) || (here && amg (foe - 1) 6)) := by
  unfold gbeing; rw [if_neg]
  rintro (h | h | h | h)
  · rw [h1] at h; simp at h
  · exact h2 h
  · exact h3 h
  · exact h h4

set_option maxHeartbeats 1000000 in
theorem being_any (s : ByteArray) (here keen : Bool) (room health foe : Int) (w : World) (hn : -9223372036854775808 ≤ foe) (hn' : foe ≤ 9223372036854775807) :
    Calls Tryd.prog 34 #[.agg #[.string s, .bool here, .bool keen, .int .i64 room, .int .i64 health, .int .i64 foe]] w fun e w' => e = .returned (.bool (gbeing here room health foe)) ∧ Below w.heap.size w w' := by
  cases ha : amg room 6 with
  | false =>
    have HG := hide (gb_no (here := here) (room := room) (health := health) (foe := foe) (.inl ha))
    go_enter Tryd.func34, Tryd.ntmps34
    go_wp2_with fail
    refine (among_any room 6 _).mono ?_
    rintro e w1 ⟨rfl, hw⟩
    rw [hw, ha]
    clear hw w1 ha
    go_wp2
    go_ret
    exact ⟨ret_bool HG.out.symm, below_box _ _⟩
  | true =>
    by_cases h2 : health < 0
    · have HG := hide (gb_no (here := here) (room := room) (health := health) (foe := foe) (.inr (.inl h2)))
      go_enter Tryd.func34, Tryd.ntmps34
      go_wp2_with fail
      refine (among_any room 6 _).mono ?_
      rintro e w1 ⟨rfl, hw⟩
      rw [hw, ha]
      clear hw w1 ha
      go_wp2
      go_ret
      exact ⟨ret_bool HG.out.symm, below_box _ _⟩
    · by_cases h3 : 10 < health
      · have HG := hide (gb_no (here := here) (room := room) (health := health) (foe := foe) (.inr (.inr (.inl h3))))
        go_enter Tryd.func34, Tryd.ntmps34
        go_wp2_with fail
        refine (among_any room 6 _).mono ?_
        rintro e w1 ⟨rfl, hw⟩
        rw [hw, ha]
        clear hw w1 ha
        go_wp2
        go_ret
        exact ⟨ret_bool HG.out.symm, below_box _ _⟩
      · by_cases h4 : here = decide (0 < health)
        · have HG := hide (gb_yes (foe := foe) ha h2 h3 h4)
          have H4 := hide h4
          by_cases hp : 0 < health
          · have e4 : here = true := by rw [h4]; simp [hp]
            subst e4
            clear h4
            by_cases hf : foe = 0
            · have hb : (foe == 0) = true := by simp [hf]
              have HF := hide hf
              clear hf
              go_enter Tryd.func34, Tryd.ntmps34
              go_wp2_with fail
              refine (among_any room 6 _).mono ?_
              rintro e w1 ⟨rfl, hw⟩
              rw [hw, ha]
              clear hw w1 ha
              go_wp2
              go_ret
              exact ⟨ret_bool (by rw [HG.out, hb]; rfl), below_box _ _⟩
            · have hb : (foe == 0) = false := by simp [hf]
              clear hf
              have HW := hide (amg_wrap foe 6 (by omega) hn hn')
              go_enter Tryd.func34, Tryd.ntmps34
              go_wp2_with fail
              refine (among_any room 6 _).mono ?_
              rintro e w1 ⟨rfl, hw⟩
              rw [hw, ha]
              clear hw w1 ha
              go_wp2_with fail
              refine (among_any _ 6 _).mono ?_
              rintro e w1 ⟨rfl, hw⟩
              rw [hw]
              clear hw w1
              go_wp2
              go_ret
              exact ⟨ret_bool (by rw [HG.out, hb]; first | (rw [← HW.out]; rfl) | rfl), below_box _ _⟩
          · have e4 : here = false := by rw [h4]; simp [hp]
            subst e4
            clear h4
            by_cases hf : foe = 0
            · have hb : (foe == 0) = true := by simp [hf]
              have HF := hide hf
              clear hf
              go_enter Tryd.func34, Tryd.ntmps34
              go_wp2_with fail
              refine (among_any room 6 _).mono ?_
              rintro e w1 ⟨rfl, hw⟩
              rw [hw, ha]
              clear hw w1 ha
              go_wp2
              go_ret
              exact ⟨ret_bool (by rw [HG.out, hb]; rfl), below_box _ _⟩
            · have hb : (foe == 0) = false := by simp [hf]
              clear hf
              go_enter Tryd.func34, Tryd.ntmps34
              go_wp2_with fail
              refine (among_any room 6 _).mono ?_
              rintro e w1 ⟨rfl, hw⟩
              rw [hw, ha]
              clear hw w1 ha
              go_wp2
              go_ret
              exact ⟨ret_bool (by rw [HG.out, hb]; rfl), below_box _ _⟩
        · have HG := hide (gb_no (here := here) (room := room) (health := health) (foe := foe) (.inr (.inr (.inr h4))))
          have H4 := hide h4
          by_cases hp : 0 < health
          · have e4 : here = false := by
              cases here with
              | false => rfl
              | true => exact absurd (by simp [hp]) h4
            subst e4
            clear h4
            go_enter Tryd.func34, Tryd.ntmps34
            go_wp2_with fail
            refine (among_any room 6 _).mono ?_
            rintro e w1 ⟨rfl, hw⟩
            rw [hw, ha]
            clear hw w1 ha
            go_wp2
            go_ret
            exact ⟨ret_bool HG.out.symm, below_box _ _⟩
          · have e4 : here = true := by
              cases here with
              | true => rfl
              | false => exact absurd (by simp [hp]) h4
            have hz : decide (0 < health) = false := by simp; omega
            have hy : decide (health < 0) = false := by simp; omega
            have hx : decide (10 < health) = false := by simp; omega
            subst e4
            clear h4
            go_enter Tryd.func34, Tryd.ntmps34
            go_wp2_with fail
            refine (among_any room 6 _).mono ?_
            rintro e w1 ⟨rfl, hw⟩
            rw [hw, ha]
            clear hw w1 ha
            go_wp2
            go_ret
            exact ⟨ret_bool HG.out.symm, below_box _ _⟩
end Go.Proofs.YtaifjndkgfffpaaDoor
