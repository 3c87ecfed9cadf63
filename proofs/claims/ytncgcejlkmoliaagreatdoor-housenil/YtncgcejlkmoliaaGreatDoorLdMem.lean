/-
  Lands: what one holds, and its 165 cells in memory; small functions' contracts.
-/
import Derived.Test.YtncgcejlkmoliaaGreatDoorBs
namespace Go.Proofs.YtncgcejlkmoliaaGreatDoor
open Go.RowKit
set_option linter.unusedVariables false

/-- A land. -/
structure Ld where
  rname : Nat → ByteArray
  dark : Nat → Bool
  exit : Nat → Nat → Int
  shut : Nat → Nat → Bool
  tname : Nat → ByteArray
  kind : Nat → Int
  wh : Nat → Int
  loc : Nat → Int
  on : Nat → Bool
  bname : Nat → ByteArray
  here : Nat → Bool
  keen : Nat → Bool
  room : Nat → Int
  health : Nat → Int
  foe : Nat → Int

namespace Ld
variable (L : Ld)
def roomCell (r : Nat) : Nat → Value
  | 0 => .string (L.rname r)
  | 1 => .bool (L.dark r)
  | j + 2 => if j < 6 then .int .i64 (L.exit r j) else .bool (L.shut r (j - 6))
def thingCell (i : Nat) : Nat → Value
  | 0 => .string (L.tname i)
  | 1 => .int .i64 (L.kind i)
  | 2 => .int .i64 (L.wh i)
  | 3 => .int .i64 (L.loc i)
  | _ => .bool (L.on i)
def beingCell (b : Nat) : Nat → Value
  | 0 => .string (L.bname b)
  | 1 => .bool (L.here b)
  | 2 => .bool (L.keen b)
  | 3 => .int .i64 (L.room b)
  | 4 => .int .i64 (L.health b)
  | _ => .int .i64 (L.foe b)
def cellAt (n : Nat) : Value :=
  if n < 84 then L.roomCell (n / 14) (n % 14) else if n < 129 then L.thingCell ((n - 84) / 5) ((n - 84) % 5) else L.beingCell ((n - 129) / 6) ((n - 129) % 6)
/-- Its cells in memory. -/
def cells : Array Value := Array.ofFn (n := 165) fun i => L.cellAt i.val
theorem size : L.cells.size = 165 := by simp [cells]
theorem get (n : Nat) (h : n < 165) : L.cells[n]? = some (L.cellAt n) := by
  rw [Array.getElem?_eq_getElem (by rw [size]; exact h)]; simp [cells]
theorem at_thing (i j : Nat) (hi : i < 9) (hj : j < 5) : L.cellAt (84 + i * 5 + j) = L.thingCell i j := by
  unfold cellAt
  rw [if_neg (by omega), if_pos (by omega)]
  have e1 : (84 + i * 5 + j - 84) / 5 = i := by omega
  have e2 : (84 + i * 5 + j - 84) % 5 = j := by omega
  rw [e1, e2]
theorem at_being (i j : Nat) (hi : i < 6) (hj : j < 6) : L.cellAt (129 + i * 6 + j) = L.beingCell i j := by
  unfold cellAt
  rw [if_neg (by omega), if_neg (by omega)]
  have e1 : (129 + i * 6 + j - 129) / 6 = i := by omega
  have e2 : (129 + i * 6 + j - 129) % 6 = j := by omega
  rw [e1, e2]
theorem at_room (r j : Nat) (hr : r < 6) (hj : j < 14) : L.cellAt (r * 14 + j) = L.roomCell r j := by
  unfold cellAt
  rw [if_pos (by omega)]
  have e1 : (r * 14 + j) / 14 = r := by omega
  have e2 : (r * 14 + j) % 14 = j := by omega
  rw [e1, e2]
end Ld

/-- Block b holds the land L. -/
def Cod (w : World) (b : Nat) (L : Ld) : Prop := w.heap[b]? = some (.cells L.cells 43 (0, 0))

section
variable {w w' : World} {b : Nat} {L : Ld}
theorem Cod.lt (h : Cod w b L) : b < w.heap.size := (Array.getElem?_eq_some_iff.1 h).1
theorem Cod.cell (h : Cod w b L) (n : Nat) (hn : n < 165) : w.cell? ⟨b, n, none⟩ = some (L.cellAt n) := by
  unfold Cod at h; rw [cell_of_row w b n _ _ _ h, L.get n hn]
theorem Cod.thing (h : Cod w b L) (i j : Nat) (hi : i < 9) (hj : j < 5) : w.cell? ⟨b, 84 + i * 5 + j, none⟩ = some (L.thingCell i j) := by
  rw [h.cell _ (by omega), L.at_thing i j hi hj]
theorem Cod.being (h : Cod w b L) (i j : Nat) (hi : i < 6) (hj : j < 6) : w.cell? ⟨b, 129 + i * 6 + j, none⟩ = some (L.beingCell i j) := by
  rw [h.cell _ (by omega), L.at_being i j hi hj]
theorem Cod.behind {B : Nat} (h : Cod w b L) (hb : Below B w w') (hB : w.heap.size ≤ B) : Cod w' b L := by
  have := h.lt
  unfold Cod; rw [hb.block _ (by omega)]; exact h
theorem Cod.alloc (h : Cod w b L) (o : Obj) : Cod (w.alloc o) b L := by
  unfold Cod; rw [Below.heap_alloc _ _ _ h.lt]; exact h
theorem Cod.set (h : Cod w b L) {c : Nat} (hc : b ≠ c) (o : Nat) (x : Value) : Cod (w.setCell ⟨c, o, none⟩ x) b L := by
  unfold Cod; rw [Below.heap_setCell _ _ _ _ hc]; exact h
theorem cod_new (w : World) (L : Ld) : Cod (w.alloc (.cells L.cells 43)) w.heap.size L := heap_alloc_new w _
end

theorem Tryz.sizeLand : (Tryz.prog.info? 43).map (·.size) = some 165 := by kernel_rfl

/-- The whole land is read. -/
theorem Cod.load {w : World} {b : Nat} {L : Ld} (h : Cod w b L) : (Instr.loadAt 43 (.pointer (some ⟨b, 0, none⟩))).run Tryz.prog w = .ok (.agg L.cells) w := by
  simp only [Instr.loadAt, Instr.sureAddr, Sem.run_bind, Sem.run_pure, Result.andThen_ok]
  exact run_loadVar_row w b 43 43 L.cells (0, 0) _ h Tryz.underlying43 rfl (by rw [L.size]; exact Tryz.sizeLand)

/-- Is there one of that number? -/
def amg (i n : Int) : Bool := decide (0 ≤ i) && decide (i < n)

theorem among_any (i n : Int) (w : World) : Calls Tryz.prog 72 #[.int .i64 i, .int .i64 n] w fun e w' => e = .returned (.bool (amg i n)) ∧ w' = w := by
  by_cases h0 : 0 ≤ i
  · go_enter Tryz.func72, Tryz.ntmps72
    go_wp2
    go_ret
    exact ⟨ret_bool (by simp [amg, h0]), rfl⟩
  · go_enter Tryz.func72, Tryz.ntmps72
    go_wp2
    go_ret
    exact ⟨ret_bool (by simp only [amg]; rw [decide_eq_false (by omega)]; rfl), rfl⟩

theorem amg_pos {i n : Int} (h : amg i n = true) : 0 ≤ i ∧ i < n := by simpa [amg] using h
theorem amg_mk {i n : Int} (h : 0 ≤ i) (h' : i < n) : amg i n = true := by simp [amg, h, h']
theorem amg_neg {i n : Int} (h : amg i n = false) : ¬ (0 ≤ i ∧ i < n) := by
  intro ⟨h1, h2⟩; rw [amg_mk h1 h2] at h; simp at h
theorem amg_no {i n : Int} (h : ¬ (0 ≤ i ∧ i < n)) : amg i n = false := by
  cases hx : amg i n with
  | false => rfl
  | true => exact absurd (amg_pos hx) h

/-- v is a list of numbers in memory, and these are they. -/
def Nums (w : World) (v : Value) (q : List Int) : Prop :=
  ∃ (av : Option Addr) (cap : Nat), v = .slice av q.length cap ∧ q.length ≤ cap ∧ cap ≤ maxLen ∧
    (0 < q.length → ∃ b off, av = some ⟨b, off, none⟩ ∧ ∀ i, i < q.length → w.cell? ⟨b, off + i, none⟩ = some (.int .i64 (q.getD i 0)))
end Go.Proofs.YtncgcejlkmoliaaGreatDoor
