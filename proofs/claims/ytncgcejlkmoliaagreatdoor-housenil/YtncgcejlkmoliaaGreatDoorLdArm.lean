/-
  What the walk takes at an operation on a whole land, or on a room, a thing, a being of it.
-/
import Derived.Test.YtncgcejlkmoliaaGreatDoorLdWayW
import Derived.Deep.WholeRow
namespace Go.Proofs.YtncgcejlkmoliaaGreatDoor
open Go.RowKit
set_option linter.unusedVariables false

section
variable {P : Program} {ops : Array Oper} {rest : List Oper} {op : Oper} {a : Act} {w : World} {Q : Exit → Act → World → Prop}

/-- The whole land is read. -/
theorem wl_land (x : Operand) (ho : op.op = .load 43 x) (hw : Region.wanted op (yielded ops a.tmps) = true) (b : Nat) (L : Ld)
    (hx : a.eval x = .pointer (some ⟨b, 0, none⟩)) (hc : Cod w b L) (h : wpList Tryz.prog ops Q rest (a.put op.dst (.agg L.cells)) w) : wpList Tryz.prog ops Q (op :: rest) a w :=
  wl_wanted hw (wp_load_row 43 x ho b hx 43 L.cells (0, 0) _ hc Tryz.underlying43 rfl (by rw [L.size]; exact Tryz.sizeLand) h)

/-- A piece of a block is read. -/
theorem wl_mid (ty : TypeId) (x : Operand) (ho : op.op = .load ty x) (hw : Region.wanted op (yielded ops a.tmps) = true) (b o : Nat) (cs : List Value) (d : TypeDesc)
    (hx : a.eval x = .pointer (some ⟨b, o, none⟩)) (hc : w.rangeAt b o cs) (hu : P.underlying ty = some d) (hd : d.isRow = true) (hi : (P.info? ty).map (·.size) = some cs.length)
    (h : wpList P ops Q rest (a.put op.dst (.agg cs.toArray)) w) : wpList P ops Q (op :: rest) a w :=
  wl_wanted hw (wp_load_mid ty x ho b o hx cs d hc hu hd hi h)

/-- A whole value goes into the block that was made last. -/
theorem wl_new (t : TypeId) (x y : Operand) (ho : op.op = .store t x y) (hw : Region.wanted op (yielded ops a.tmps) = true) {W : World} (c c' : Array Value) (hW : W = w.alloc (.cells c t))
    (hx : a.eval x = .pointer (some ⟨w.heap.size, 0, none⟩)) (hy : a.eval y = .agg c') (hi : (P.info? t).map (·.size) = some c'.size) (hs : c.size = c'.size) (h1 : c'.all (·.oneCell') = true)
    (h : wpList P ops Q rest (a.put op.dst undef) (w.alloc (.cells c' t))) : wpList P ops Q (op :: rest) a W := by
  subst hW
  refine wl_wanted hw ?_
  unfold Oper.wp execOp
  simp only [ho, hx, hy, Instr.storeAt, Instr.sureAddr, Sem.run_bind, Sem.run_pure, Result.andThen_ok, run_storeVar_new w t c c' hi hs h1]
  exact h

/-- An element of an array by value that is itself a struct. -/
theorem wl_index (t e : TypeId) (x y : Operand) (ho : op.op = .index t x y) (hw : Region.wanted op (yielded ops a.tmps) = true) (n s k : Nat) (cs : Array Value) (d : TypeDesc)
    (hx : a.eval x = .agg cs) (hy : a.eval y = .int .i64 (k : Int)) (hu : P.underlying t = some (.array n e)) (he : P.underlying e = some d) (hd : d.isRow = true) (hi : (P.info? e).map (·.size) = some s) (hk : k < n)
    (h : wpList P ops Q rest (a.put op.dst (.agg (cs.extract (k * s) (k * s + s)))) w) : wpList P ops Q (op :: rest) a w := by
  refine wl_wanted hw ?_
  have hagg : (isAgg e).run P w = .ok true w := by
    unfold isAgg
    rw [Sem.run_bind, run_underlying he w]
    cases d <;> simp_all
  have hsz : (sizeOf e).run P w = .ok s w := by
    cases hq : P.info? e with
    | none => simp [hq] at hi
    | some i =>
      have : i.size = s := by simpa [hq] using hi
      simp [sizeOf, typeInfo, hq, this]
  unfold Oper.wp execOp
  have hk' : (k : Int) < (n : Int) := by omega
  have h0 : (0 : Int) ≤ (k : Int) := by omega
  simp only [ho, hx, hy, Instr.index, asIntOf, Sem.run_bind, Sem.run_pure, Result.andThen_ok, run_underlying hu, hk', h0, and_self, if_true, hsz, part, hagg, Int.toNat_natCast]
  exact h
end

namespace Ld
variable (L : Ld)
def tcells (i : Nat) : Array Value := #[.string (L.tname i), .int .i64 (L.kind i), .int .i64 (L.wh i), .int .i64 (L.loc i), .bool (L.on i)]
def bcells (b : Nat) : Array Value := #[.string (L.bname b), .bool (L.here b), .bool (L.keen b), .int .i64 (L.room b), .int .i64 (L.health b), .int .i64 (L.foe b)]
def ecells (r : Nat) : Array Value := #[.int .i64 (L.exit r 0), .int .i64 (L.exit r 1), .int .i64 (L.exit r 2), .int .i64 (L.exit r 3), .int .i64 (L.exit r 4), .int .i64 (L.exit r 5)]
def scells (r : Nat) : Array Value := #[.bool (L.shut r 0), .bool (L.shut r 1), .bool (L.shut r 2), .bool (L.shut r 3), .bool (L.shut r 4), .bool (L.shut r 5)]
def rcells (r : Nat) : Array Value := #[.string (L.rname r), .bool (L.dark r), .int .i64 (L.exit r 0), .int .i64 (L.exit r 1), .int .i64 (L.exit r 2), .int .i64 (L.exit r 3), .int .i64 (L.exit r 4), .int .i64 (L.exit r 5),
  .bool (L.shut r 0), .bool (L.shut r 1), .bool (L.shut r 2), .bool (L.shut r 3), .bool (L.shut r 4), .bool (L.shut r 5)]
def roomsA : Array Value := L.cells.extract 0 84
def thingsA : Array Value := L.cells.extract 84 129
def beingsA : Array Value := L.cells.extract 129 165

theorem tcells_get (i j : Nat) (hj : j < 5) : (L.tcells i)[j]? = some (L.thingCell i j) := by
  match j, hj with
  | 0, _ => rfl
  | 1, _ => rfl
  | 2, _ => rfl
  | 3, _ => rfl
  | 4, _ => rfl
theorem bcells_get (i j : Nat) (hj : j < 6) : (L.bcells i)[j]? = some (L.beingCell i j) := by
  match j, hj with
  | 0, _ => rfl
  | 1, _ => rfl
  | 2, _ => rfl
  | 3, _ => rfl
  | 4, _ => rfl
  | 5, _ => rfl
theorem rcells_get (i j : Nat) (hj : j < 14) : (L.rcells i)[j]? = some (L.roomCell i j) := by
  match j, hj with
  | 0, _ => rfl
  | 1, _ => rfl
  | 2, _ => rfl
  | 3, _ => rfl
  | 4, _ => rfl
  | 5, _ => rfl
  | 6, _ => rfl
  | 7, _ => rfl
  | 8, _ => rfl
  | 9, _ => rfl
  | 10, _ => rfl
  | 11, _ => rfl
  | 12, _ => rfl
  | 13, _ => rfl

theorem things_at (k : Nat) (hk : k < 9) : L.thingsA.extract (k * 5) (k * 5 + 5) = L.tcells k := by
  apply Array.ext_getElem?
  intro j
  unfold thingsA
  simp only [Array.getElem?_extract, Array.size_extract, size]
  by_cases hj : j < 5
  · rw [if_pos (by omega), if_pos (by omega), L.tcells_get k j hj, L.get _ (by omega), ← L.at_thing k j hk hj]
    congr 2; omega
  · rw [if_neg (by omega), Array.getElem?_eq_none (by simp [tcells]; omega)]
theorem beings_at (k : Nat) (hk : k < 6) : L.beingsA.extract (k * 6) (k * 6 + 6) = L.bcells k := by
  apply Array.ext_getElem?
  intro j
  unfold beingsA
  simp only [Array.getElem?_extract, Array.size_extract, size]
  by_cases hj : j < 6
  · rw [if_pos (by omega), if_pos (by omega), L.bcells_get k j hj, L.get _ (by omega), ← L.at_being k j hk hj]
    congr 2; omega
  · rw [if_neg (by omega), Array.getElem?_eq_none (by simp [bcells]; omega)]
theorem rooms_at (k : Nat) (hk : k < 6) : L.roomsA.extract (k * 14) (k * 14 + 14) = L.rcells k := by
  apply Array.ext_getElem?
  intro j
  unfold roomsA
  simp only [Array.getElem?_extract, Array.size_extract, size]
  by_cases hj : j < 14
  · rw [if_pos (by omega), if_pos (by omega), L.rcells_get k j hj, L.get _ (by omega), ← L.at_room k j hk hj]
    congr 2; omega
  · rw [if_neg (by omega), Array.getElem?_eq_none (by simp [rcells]; omega)]
end Ld

section
variable {w : World} {b : Nat} {L : Ld}
theorem Cod.thingR (h : Cod w b L) (k : Nat) (hk : k < 9) : w.rangeAt b (84 + k * 5) (L.tcells k).toList := by
  intro j v hv
  have hj : j < 5 := by
    have := (List.getElem?_eq_some_iff.1 hv).1; simpa [Ld.tcells] using this
  rw [h.thing k j hk hj, ← hv]
  have := L.tcells_get k j hj
  simpa using this.symm
theorem Cod.roomsR (h : Cod w b L) : w.rangeAt b 0 L.roomsA.toList := World.rangeAt_of_block h 0 84
theorem Cod.thingsR (h : Cod w b L) : w.rangeAt b 84 L.thingsA.toList := World.rangeAt_of_block h 84 45
theorem Cod.beingsR (h : Cod w b L) : w.rangeAt b 129 L.beingsA.toList := World.rangeAt_of_block h 129 36
end

theorem Tryz.sizeThing : (Tryz.prog.info? 37).map (·.size) = some 5 := by kernel_rfl
theorem Tryz.sizeBeing : (Tryz.prog.info? 40).map (·.size) = some 6 := by kernel_rfl
theorem Tryz.sizeRoom : (Tryz.prog.info? 34).map (·.size) = some 14 := by kernel_rfl
theorem Tryz.sizeThings : (Tryz.prog.info? 38).map (·.size) = some 45 := by kernel_rfl
theorem Tryz.sizeBeings : (Tryz.prog.info? 41).map (·.size) = some 36 := by kernel_rfl
theorem Tryz.sizeRooms : (Tryz.prog.info? 35).map (·.size) = some 84 := by kernel_rfl

/-- A thing of a land is read whole. -/
theorem wl_thing {ops : Array Oper} {rest : List Oper} {op : Oper} {a : Act} {w : World} {Q : Exit → Act → World → Prop} (x : Operand) (ho : op.op = .load 37 x) (hw : Region.wanted op (yielded ops a.tmps) = true) (b k : Nat) (L : Ld)
    (hx : a.eval x = .pointer (some ⟨b, 84 + k * 5, none⟩)) (hc : Cod w b L) (hk : k < 9)
    (h : wpList Tryz.prog ops Q rest (a.put op.dst (.agg #[.string (L.tname k), .int .i64 (L.kind k), .int .i64 (L.wh k), .int .i64 (L.loc k), .bool (L.on k)])) w) : wpList Tryz.prog ops Q (op :: rest) a w :=
  wl_mid 37 x ho hw b (84 + k * 5) (L.tcells k).toList _ hx (hc.thingR k hk) Tryz.underlying37 rfl Tryz.sizeThing h
end Go.Proofs.YtncgcejlkmoliaaGreatDoor
