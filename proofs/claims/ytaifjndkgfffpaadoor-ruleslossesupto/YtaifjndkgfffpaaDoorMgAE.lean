/-
  What the walk takes at an operation on a whole land, or on a room, a thing, a being of it.
-/
import Derived.Test.YtaifjndkgfffpaaDoorMgAD
import Derived.Deep.WholeRow
namespace Go.Proofs.YtaifjndkgfffpaaDoor
open Go.RowKit
set_option linter.unusedVariables false

section
variable {P : Program} {ops : Array Oper} {rest : List Oper} {op : Oper} {a : Act} {w : World} {Q : Exit → Act → World → Prop}

/-- The whole land is read. -/
theorem wl_land (x : Operand) (ho : op.op = .load 34 x) (hw : Region.wanted op (yielded ops a.tmps) = true) (b : Nat) (L : Ld)
    (hx : a.eval x = .pointer (some ⟨b, 0, none⟩)) (hc : Cod w b L) (h : wpList Tryd.prog ops Q rest (a.put op.dst (.agg L.cells)) w) : wpList Tryd.prog ops Q (op :: rest) a w :=
  wl_wanted hw (wp_load_row 34 x ho b hx 34 L.cells (0, 0) _ hc Tryd.underlying34 rfl (by rw [L.size]; exact Tryd.sizeLand) h)

/-- A piece of a block is read. -/
theorem wl_mid (ty : TypeId) (x : Operand) (ho : op.op = .load ty x) (hw : Region.wanted op (yielded ops a.tmps) = true) (b o : Nat) (cs : List Value) (d : TypeDesc)
    (hx : a.eval x = .pointer (some ⟨b, o, none⟩)) (hc : w.rangeAt b o cs) (hu : P.underlying ty = some d) (hd : d.isRow = true) (hi : (P.info? ty).map (·.size) = some cs.length)
    (h : wpList P ops Q rest (a.put op.dst (.agg cs.toArray)) w) : wpList P ops Q (op :: rest) a w :=
  wl_wanted hw (wp_load_mid ty x ho b o hx cs d hc hu hd hi h)

/-- A whole value goes into the block that was made last. -/
theorem wl_new (t : TypeId) (x y : Operand) (ho : op.op = .store t x y) (hw : Region.wanted op (yielded ops a.tmps) = true) {W : World} (c c' : Array Value) (hW : W = w.alloc (.cells c t))
    (hx : a.eval x = .pointer (some ⟨w.heap.size, 0, none⟩)) (hy : a.eval y = .agg c') (hi : (P.info? t).map (·.size) = some c'.size) (hs : c.size = c'.size) (h1 : c'.all (·.oneCell') = true)
    (h : wpList P ops Q rest (a.put op.dst undef) (w.alloc (.cells c' t))) : wpList P ops Q (op :: rest) a W := by
  subst hW
  refine wl_wanted hw ?_
  unfold Oper.wp execOp
  simp only [ho, hx, hy, Instr.storeAt, Instr.sureAddr, Sem.run_bind, Sem.run_pure, Result.andThen_ok, run_storeVar_new w t c c' hi hs h1]
  exact h

/-- An element of an array by value that is itself a struct. -/
theorem wl_index (t e : TypeId) (x y : Operand) (ho : op.op = .index t x y) (hw : Region.wanted op (yielded ops a.tmps) = true) (n s k : Nat) (cs : Array Value) (d : TypeDesc)
    (hx : a.eval x = .agg cs) (hy : a.eval y = .int .i64 (k : Int)) (hu : P.underlying t = some (.array n e)) (he : P.underlying e = some d) (hd : d.isRow = true) (hi : (P.info? e).map (·.size) = some s) (hk : k < n)
    (h : wpList P ops Q rest (a.put op.dst (.agg (cs.extract (k * s) (k * s + s)))) w) : wpList P ops Q (op :: rest) a w := by
  refine wl_wanted hw ?_
  have hagg : (isAgg e).run P w = .ok true w := by
    unfold isAgg
    rw [Sem.run_bind, run_underlying he w]
    cases d <;> simp_all
  have hsz : (sizeOf e).run P w = .ok s w := by
    cases hq : P.info? e with
    | none => simp [hq] at hi
    | some i =>
      have : i.size = s := by simpa [hq] using hi
      simp [sizeOf, typeInfo, hq, this]
  unfold Oper.wp execOp
  have hk' : (k : Int) < (n : Int) := by omega
  have h0 : (0 : Int) ≤ (k : Int) := by omega
  simp only [ho, hx, hy, Instr.index, asIntOf, Sem.run_bind, Sem.run_pure, Result.andThen_ok, run_underlying hu, hk', h0, and_self, if_true, hsz, part, hagg, Int.toNat_natCast]
  exact h
end

namespace Ld
variable (L : Ld)
def tcells (i : Nat) : Array Value := #[.string (L.tname i), .int .i64 (L.kind i), .int .i64 (L.wh i), .int .i64 (L.loc i), .bool (L.on i)]
def bcells (b : Nat) : Array Value := #[.string (L.bname b), .bool (L.here b), .bool (L.keen b), .int .i64 (L.room b), .int .i64 (L.health b), .int .i64 (L.foe b)]
def ecells (r : Nat) : Array Value := #[.int .i64 (L.exit r 0), .int .i64 (L.exit r 1), .int .i64 (L.exit r 2), .int .i64 (L.exit r 3), .int .i64 (L.exit r 4), .int .i64 (L.exit r 5)]
def scells (r : Nat) : Array Value := #[.bool (L.shut r 0), .bool (L.shut r 1), .bool (L.shut r 2), .bool (L.shut r 3), .bool (L.shut r 4), .bool (L.shut r 5)]
def rcells (r : Nat) : Array Value := #[.string (L.rname r), .bool (L.dark r), .int .i64 (L.exit r 0), .int .i64 (L.exit r 1), .int .i64 (L.exit r 2), .int .i64 (L.exit r 3), .int .i64 (L.exit r 4), .int .i64 (L.exit r 5),
  .bool (L.shut r 0), .bool (L.shut r 1), .bool (L.shut r 2), .bool (L.shut r 3), .bool (L.shut r 4), .bool (L.shut r 5)]
def roomsA : Array Value := L.cells.extract 0 84
def thingsA : Array Value := L.cells.extract 84 129
def beingsA : Array Value := L.cells.extract 129 165

theorem tcells_get (i j : Nat) (hj : j < 5) : (L.tcells i)[j]? = some (L.thingCell i j) := by
  match j, hj with
  | 0, _ => rfl
  | 1, _ => rfl
  | 2, _ => rfl
  | 3, _ => rfl
  | 4, _ => rfl
theorem bcells_get (i j : Nat) (hj : j < 6) : (L.bcells i)[j]? = some (L.beingCell i j) := by
  match j, hj with
  | 0, _ => rfl
  | 1, _ => rfl
  | 2, _ => rfl
  | 3, _ => rfl
  | 4, _ => rfl
  | 5, _ => rfl
theorem rcells_get (i j : Nat) (hj : j < 14) : (L.rcells i)[j]? = some (L.roomCell i j) := by
  match j, hj with
  | 0, _ => rfl
  | 1, _ => rfl
  | 2, _ => rfl
  | 3, _ => rfl
  | 4, _ => rfl
  | 5, _ => rfl
  | 6, _ => rfl
  | 7, _ => rfl
  | 8, _ => rfl
  | 9, _ => rfl
  | 10, _ => rfl
  | 11, _ => rfl
  | 12, _ => rfl
  | 13, _ => rfl

theorem things_at (k : Nat) (hk : k < 9) : L.thingsA.extract (k * 5) (k * 5 + 5) = L.tcells k := by
  apply Array.ext_getElem?
  intro j
  unfold thingsA
  simp only [Array.getElem?_extract, Array.size_extract, size]
  by_cases hj : j < 5
  · rw [if_pos (by omega), if_pos (by omega), L.tcells_get k j hj, L.get _ (by omega), ← L.at_thing k j hk hj]
    congr 2; omega
  · rw [if_neg (by omega), Array.getElem?_eq_none (by simp [tcells]; omega)]
theorem beings_at (k : Nat) (hk : k < 6) : L.beingsA.extract (k * 6) (k * 6 + 6) = L.bcells k := by
  apply Array.ext_getElem?
  intro j
  unfold beingsA
  simp only [Array.getElem?_extract, Array.size_extract, size]
  by_cases hj : j < 6
  · rw [if_pos (by omega), if_pos (by omega), L.bcells_get k j hj, L.get _ (by omega), ← L.at_being k j hk hj]
    congr 2; omega
  · rw [if_neg (by omega), Array.getElem?_eq_none (by simp [bcells]; omega)]
theorem rooms_at (k : Nat) (hk : k < 6) : L.roomsA.extract (k * 14) (k * 14 + 14) = L.rcells k := by
  apply Array.ext_getElem?
  intro j
  unfold roomsA
  simp only [Array.getElem?_extract, Array.size_extract, size]
  by_cases hj : j < 14
  · rw [if_pos (by omega), if_pos (by omega), L.rcells_get k j hj, L.get _ (by omega), ← L.at_room k j hk hj]
    congr 2; omega
  · rw [if_neg (by omega), Array.getElem?_eq_none (by simp [rcells]; omega)]
end Ld

section
variable {w : World} {b : Nat} {L : Ld}
theorem Cod.thingR (h : Cod w b L) (k : Nat) (hk : k < 9) : w.rangeAt b (84 + k * 5) (L.tcells k).toList := by
  intro j v hv
  have hj : j < 5 := by
    have := (List.getElem?_eq_some_iff.1 hv).1; simpa [Ld.tcells] using this
  rw [h.thing k j hk hj, ← hv]
  have := L.tcells_get k j hj
  simpa using this.symm
theorem Cod.roomsR (h : Cod w b L) : w.rangeAt b 0 L.roomsA.toList := World.rangeAt_of_block h 0 84
theorem Cod.thingsR (h : Cod w b L) : w.rangeAt b 84 L.thingsA.toList := World.rangeAt_of_block h 84 45
theorem Cod.beingsR (h : Cod w b L) : w.rangeAt b 129 L.beingsA.toList := World.rangeAt_of_block h 129 36
end

theorem Tryd.sizeThing : (Tryd.prog.info? 28).map (·.size) = some 5 := by kernel_rfl
theorem Tryd.sizeBeing : (Tryd.prog.info? 31).map (·.size) = some 6 := by kernel_rfl
theorem Tryd.sizeRoom : (Tryd.prog.info? 25).map (·.size) = some 14 := by kernel_rfl
theorem Tryd.sizeThings : (Tryd.prog.info? 29).map (·.size) = some 45 := by kernel_rfl
theorem Tryd.sizeBeings : (Tryd.prog.info? 32).map (·.size) = some 36 := by kernel_rfl
theorem Tryd.sizeRooms : (Tryd.prog.info? 26).map (·.size) = some 84 := by kernel_rfl

/-- A thing of a land is read whole. -/
theorem wl_thing {ops : Array Oper} {rest : List Oper} {op : Oper} {a : Act} {w : World} {Q : Exit → Act → World → Prop} (x : Operand) (ho : op.op = .load 28 x) (hw : Region.wanted op (yielded ops a.tmps) = true) (b k : Nat) (L : Ld)
    (hx : a.eval x = .pointer (some ⟨b, 84 + k * 5, none⟩)) (hc : Cod w b L) (hk : k < 9)
    (h : wpList Tryd.prog ops Q rest (a.put op.dst (.agg #[.string (L.tname k), .int .i64 (L.kind k), .int .i64 (L.wh k), .int .i64 (L.loc k), .bool (L.on k)])) w) : wpList Tryd.prog ops Q (op :: rest) a w :=
  wl_mid 28 x ho hw b (84 + k * 5) (L.tcells k).toList _ hx (hc.thingR k hk) Tryd.underlying28 rfl Tryd.sizeThing h
end Go.Proofs.YtaifjndkgfffpaaDoor
/-
  The last of a way: plain facts.
-/
namespace Go.Proofs.YtaifjndkgfffpaaDoor
open Go.RowKit
set_option linter.unusedVariables false

/-! ### The last of a way. -/
theorem wayFrom_win (L : Ld) : ∀ (n : Nat) (S : List Int) (i : Int), WIn S → WIn (wayFrom L n S i) ∧ (S ≠ [] → wayFrom L n S i ≠ []) := by
  intro n
  induction n with
  | zero => intro S i h; exact ⟨h, fun h => h⟩
  | succ n ih =>
    intro S i h
    simp only [wayFrom]
    by_cases hc : amg i 9 = true ∧ i ∉ S
    · rw [if_pos hc]
      have hs := (h.snoc hc.1 hc.2).1
      by_cases h2 : L.wh i.toNat = 2
      · rw [if_pos h2]
        have := ih _ (L.loc i.toNat) hs
        exact ⟨this.1, fun _ => this.2 (by simp)⟩
      · rw [if_neg h2]; exact ⟨hs, fun _ => by simp⟩
    · rw [if_neg hc]; exact ⟨h, fun h => h⟩

theorem way_win (L : Ld) (i : Int) : WIn (wayL L i) := (wayFrom_win L 10 [] i ⟨List.nodup_nil, fun s h => by simp at h⟩).1

theorem way_pos (L : Ld) {i : Int} (h : amg i 9 = true) : wayL L i ≠ [] := by
  unfold wayL
  simp only [wayFrom]
  rw [if_pos ⟨h, by simp⟩]
  have hs := (WIn.snoc (S := []) ⟨List.nodup_nil, fun s h => by simp at h⟩ h (by simp)).1
  by_cases h2 : L.wh i.toNat = 2
  · rw [if_pos h2]; exact (wayFrom_win L 9 _ _ hs).2 (by simp)
  · rw [if_neg h2]; simp

theorem wayL_nil (L : Ld) {i : Int} (h : amg i 9 = false) : wayL L i = [] := by
  unfold wayL
  simp only [wayFrom]
  rw [if_neg (by simp [h])]

theorem way_len (L : Ld) (i : Int) : (wayL L i).length ≤ 9 := pigeon 9 _ (way_win L i).nodup (way_win L i).inn

/-- The last thing of a way. -/
def lastW (L : Ld) (i : Int) : Nat := ((wayL L i).getD ((wayL L i).length - 1) 0).toNat

theorem getD_mem {q : List Int} {k : Nat} (h : k < q.length) : q.getD k 0 ∈ q := by simp [h]

theorem last_lt (L : Ld) {i : Int} (h : wayL L i ≠ []) : lastW L i < 9 ∧ (wayL L i).getD ((wayL L i).length - 1) 0 = (lastW L i : Int) := by
  have hl : 0 < (wayL L i).length := List.length_pos_iff.2 h
  have := (way_win L i).inn _ (getD_mem (q := wayL L i) (k := (wayL L i).length - 1) (by omega))
  unfold lastW
  omega

theorem Nums.some {w : World} {v : Value} {q : List Int} (h : Nums w v q) (h0 : 0 < q.length) : ∃ b off cap, v = .slice (some ⟨b, off, none⟩) q.length cap ∧ q.length ≤ cap ∧ cap ≤ maxLen ∧ ∀ i, i < q.length → w.cell? ⟨b, off + i, none⟩ = some (.int .i64 (q.getD i 0)) := by
  obtain ⟨av, cap, rfl, hl, hm, hc⟩ := h
  obtain ⟨b, off, rfl, hcc⟩ := hc h0
  exact ⟨b, off, cap, rfl, hl, hm, hcc⟩

end Go.Proofs.YtaifjndkgfffpaaDoor
