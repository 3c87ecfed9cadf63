/-
  Where a thing is at last, as the document's own answer goes through boxes; light, cloaks, who sees whom, who perceives what: plain mathematics of a land.
-/
import Derived.Test.YtaifjndkgfffpaaGreatDoorMgA
import Derived.Lib.Strings
import Derived.Lib.Bytealg
import Derived.Test.YtaifjndkgfffpaaGreatDoorBs
namespace Go.Proofs.YtaifjndkgfffpaaGreatDoor
open Go.RowKit
set_option linter.unusedVariables false

/-- What the document's own answer finds at the end of a thing's way: where, at what, whether all is open, whether it is anywhere. -/
def rootL (L : Ld) (i : Int) : Int × Int × Bool × Bool :=
  if wayL L i ≠ [] ∧ L.wh (lastW L i) ≠ 2 then (L.wh (lastW L i), L.loc (lastW L i), openW L i, decide (L.wh (lastW L i) = 0) || decide (L.wh (lastW L i) = 1)) else (0, 0, false, false)

/-- The room, out of that. -/
def roomOf (L : Ld) (t : Int × Int × Bool × Bool) : Int × Bool :=
  if t.2.2.2 = true ∧ t.1 = 1 then (if t.2.1 < 0 ∨ 5 < t.2.1 then (-1, false) else (L.room t.2.1.toNat, t.2.2.1)) else if t.2.2.2 = true then (t.2.1, t.2.2.1) else (-1, false)

theorem room_root (L : Ld) (i : Int) : roomOf L (rootL L i) = roomL L i := by
  unfold rootL roomL
  by_cases hne : wayL L i = []
  · rw [if_neg (by simp [hne]), if_pos hne]; rfl
  · by_cases h2 : L.wh (lastW L i) = 2
    · rw [if_neg (by simp [h2]), if_neg hne, if_neg (by omega), if_neg (by intro h; omega)]; rfl
    · rw [if_pos ⟨hne, h2⟩, if_neg hne]
      by_cases h0 : L.wh (lastW L i) = 0
      · rw [if_pos h0]; simp [roomOf, h0]
      · rw [if_neg h0]
        by_cases h1 : L.wh (lastW L i) = 1
        · simp only [roomOf, h1, decide_true, Bool.or_true, true_and, if_true]
          by_cases ha : amg (L.loc (lastW L i)) 6 = true
          · have := amg_pos ha
            rw [if_pos ha, if_neg (by omega)]
          · rw [if_neg ha, if_pos]
            unfold amg at ha
            simp at ha
            omega
        · simp [roomOf, h0, h1]

/-- The document's way: S was gone through, i is next, o: all open so far. -/
structure Rt (L : Ld) (i0 : Int) (S : List Int) (i : Int) (o : Bool) : Prop where
  win : WIn S
  box : ∀ s ∈ S, L.wh s.toNat = 2
  way : wayFrom L (10 - S.length) S i = wayL L i0
  opn : amg i 9 = true → o = ((S ++ [i]).drop 1).all fun b => L.on b.toNat

section
variable {L : Ld} {i0 i : Int} {S : List Int} {o : Bool}

theorem rt_start (L : Ld) (i0 : Int) : Rt L i0 [] i0 true :=
  ⟨⟨List.nodup_nil, fun s h => by simp at h⟩, fun s h => by simp at h, rfl, fun _ => rfl⟩

theorem Rt.len (h : Rt L i0 S i o) : S.length ≤ 9 := pigeon 9 _ h.win.nodup h.win.inn

theorem drop_snoc {S : List Int} (hne : S ≠ []) (j : Int) : (S ++ [j]).drop 1 = S.drop 1 ++ [j] := by
  cases S with
  | nil => exact absurd rfl hne
  | cons a r => rfl

theorem Rt.step (h : Rt L i0 S i o) (ha : amg i 9 = true) (hn : i ∉ S) (h2 : L.wh i.toNat = 2) :
    Rt L i0 (S ++ [i]) (L.loc i.toNat) (if amg (L.loc i.toNat) 9 = true then o && L.on (L.loc i.toNat).toNat else o) := by
  have hs := h.win.snoc ha hn
  have hlen := h.len
  refine ⟨hs.1, fun s hm => ?_, ?_, fun hj => ?_⟩
  · rcases List.mem_append.1 hm with hm | hm
    · exact h.box s hm
    · rw [List.mem_singleton.1 hm]; exact h2
  · obtain ⟨m, hm⟩ : ∃ m, 10 - S.length = m + 1 := ⟨9 - S.length, by omega⟩
    have hw := h.way
    rw [hm] at hw
    simp only [wayFrom] at hw
    rw [if_pos ⟨ha, hn⟩, if_pos h2] at hw
    rw [← hw]
    simp only [List.length_append, List.length_singleton]
    rw [show 10 - (S.length + 1) = m by omega]
  · rw [if_pos hj, drop_snoc (by simp), List.all_append, ← h.opn ha]
    simp

theorem Rt.done (h : Rt L i0 S i o) (ha : amg i 9 = true) (hn : i ∉ S) (h2 : L.wh i.toNat ≠ 2) :
    rootL L i0 = (L.wh i.toNat, L.loc i.toNat, o, decide (L.wh i.toNat = 0) || decide (L.wh i.toNat = 1)) := by
  have hlen := h.len
  obtain ⟨m, hm⟩ : ∃ m, 10 - S.length = m + 1 := ⟨9 - S.length, by omega⟩
  have hw := h.way
  rw [hm] at hw
  simp only [wayFrom] at hw
  rw [if_pos ⟨ha, hn⟩, if_neg h2] at hw
  have hne : wayL L i0 ≠ [] := by rw [← hw]; simp
  have hl : lastW L i0 = i.toNat := by
    unfold lastW; rw [← hw]; simp
  unfold rootL openW
  rw [hl, if_pos ⟨hne, h2⟩, ← hw, ← h.opn ha]

theorem Rt.out (h : Rt L i0 S i o) (hn : amg i 9 = false ∨ i ∈ S) : rootL L i0 = (0, 0, false, false) := by
  have hlen := h.len
  obtain ⟨m, hm⟩ : ∃ m, 10 - S.length = m + 1 := ⟨9 - S.length, by omega⟩
  have hw := h.way
  rw [hm] at hw
  simp only [wayFrom] at hw
  rw [if_neg (by
    rintro ⟨h1, h2⟩
    rcases hn with hn | hn
    · rw [hn] at h1; simp at h1
    · exact h2 hn)] at hw
  unfold rootL
  rw [if_neg]
  rintro ⟨hne, h2⟩
  have hl : 0 < (wayL L i0).length := List.length_pos_iff.2 hne
  have hmem := getD_mem (q := wayL L i0) (k := (wayL L i0).length - 1) (by omega)
  refine h2 ?_
  have := h.box ((wayL L i0).getD ((wayL L i0).length - 1) 0) (by rw [← hw] at hmem ⊢; exact hmem)
  exact this
end

/-- A lamp that shines into a room. -/
def shines (L : Ld) (r : Int) (i : Nat) : Bool := decide (L.kind i = 1) && L.on i && (roomL L i).2 && decide ((roomL L i).1 = r)
def brightL (L : Ld) (r : Int) : Bool := amg r 6 && (!L.dark r.toNat || (List.range 9).any (shines L r))
/-- A cloak that hides a being. -/
def cloaks (L : Ld) (b : Int) (i : Nat) : Bool := decide (L.wh i = 1) && decide (L.loc i = b) && decide (L.kind i = 2) && L.on i
def hiddenL (L : Ld) (b : Int) : Bool := (List.range 9).any (cloaks L b)
def abtL (L : Ld) (b : Int) : Bool := amg b 6 && L.here b.toNat
def seesL (L : Ld) (a b : Int) : Bool :=
  abtL L a && abtL L b && (decide (a = b) || (decide (L.room a.toNat = L.room b.toNat) && brightL L (L.room b.toNat) && (!hiddenL L b || L.keen a.toNat)))

def loud (k : Int) : Bool := decide (k = 7) || decide (k = 14) || decide (k = 15)
/-- How a being perceives an event. -/
def percL (L : Ld) (b kind room actor other : Int) : Int :=
  if abtL L b = false then 0
  else if b ≠ actor ∧ (kind = 16 ∨ L.room b.toNat ≠ room) then 0
  else if b ≠ actor ∧ seesL L b actor = false ∧ loud kind = false then 0
  else (if b ≠ actor ∧ seesL L b actor = false then 3 else 1) + (if amg other 6 = true ∧ seesL L b other = false then 4 else 0)

theorem sees_self (L : Ld) (a : Int) : seesL L a a = abtL L a := by simp [seesL]
end Go.Proofs.YtaifjndkgfffpaaGreatDoor
/-
  Events in memory: what one holds, and its sixteen cells.
-/
namespace Go.Proofs.YtaifjndkgfffpaaGreatDoor
open Go.RowKit
set_option linter.unusedVariables false

/-- An event. -/
structure Ev where
  kind : Int
  room : Int
  actor : Int
  other : Int
  dir : Int
  num : Int
  who : ByteArray
  whom : ByteArray
  thing : ByteArray
  text : ByteArray
  by' : Nat → Int

namespace Ev
variable (E : Ev)
def cells : Array Value := #[.int .i64 E.kind, .int .i64 E.room, .int .i64 E.actor, .int .i64 E.other, .int .i64 E.dir, .int .i64 E.num, .string E.who, .string E.whom, .string E.thing, .string E.text,
  .int .i64 (E.by' 0), .int .i64 (E.by' 1), .int .i64 (E.by' 2), .int .i64 (E.by' 3), .int .i64 (E.by' 4), .int .i64 (E.by' 5)]
theorem size : E.cells.size = 16 := rfl
theorem get_by (k : Nat) (hk : k < 6) : E.cells[10 + k]? = some (.int .i64 (E.by' k)) := by
  match k, hk with
  | 0, _ => rfl
  | 1, _ => rfl
  | 2, _ => rfl
  | 3, _ => rfl
  | 4, _ => rfl
  | 5, _ => rfl
theorem one : E.cells.all (·.oneCell') = true := by simp [cells, Value.oneCell']
/-- What is perceived by one is set. -/
def setBy (k : Nat) (x : Int) : Ev := { E with by' := fun j => if j = k then x else E.by' j }
theorem set_by (k : Nat) (hk : k < 6) (x : Int) : E.cells.setIfInBounds (10 + k) (.int .i64 x) = (E.setBy k x).cells := by
  match k, hk with
  | 0, _ => rfl
  | 1, _ => rfl
  | 2, _ => rfl
  | 3, _ => rfl
  | 4, _ => rfl
  | 5, _ => rfl
theorem ext_by {F : Ev} (h : ∀ j, j < 6 → E.by' j = F.by' j) (h1 : E.kind = F.kind) (h2 : E.room = F.room) (h3 : E.actor = F.actor) (h4 : E.other = F.other) (h5 : E.dir = F.dir) (h6 : E.num = F.num)
    (h7 : E.who = F.who) (h8 : E.whom = F.whom) (h9 : E.thing = F.thing) (h10 : E.text = F.text) : E.cells = F.cells := by
  unfold cells
  rw [h 0 (by omega), h 1 (by omega), h 2 (by omega), h 3 (by omega), h 4 (by omega), h 5 (by omega), h1, h2, h3, h4, h5, h6, h7, h8, h9, h10]
end Ev

/-- Block b holds the event E. -/
def Cev (w : World) (b : Nat) (E : Ev) : Prop := w.heap[b]? = some (.cells E.cells 62 (0, 0))

theorem Tryz.sizeEvent : (Tryz.prog.info? 62).map (·.size) = some 16 := by kernel_rfl

section
variable {w w' : World} {b : Nat} {E : Ev}
theorem Cev.lt (h : Cev w b E) : b < w.heap.size := (Array.getElem?_eq_some_iff.1 h).1
theorem Cev.cell (h : Cev w b E) {n : Nat} {v : Value} (hv : E.cells[n]? = some v) : w.cell? ⟨b, n, none⟩ = some v := by
  unfold Cev at h; rw [cell_of_row w b n _ _ _ h, hv]
theorem Cev.by' (h : Cev w b E) (k : Nat) (hk : k < 6) : w.cell? ⟨b, 10 + k, none⟩ = some (.int .i64 (E.by' k)) := h.cell (E.get_by k hk)
theorem Cev.kind (h : Cev w b E) : w.cell? ⟨b, 0, none⟩ = some (.int .i64 E.kind) := h.cell rfl
theorem Cev.room (h : Cev w b E) : w.cell? ⟨b, 1, none⟩ = some (.int .i64 E.room) := h.cell rfl
theorem Cev.actor (h : Cev w b E) : w.cell? ⟨b, 2, none⟩ = some (.int .i64 E.actor) := h.cell rfl
theorem Cev.othr (h : Cev w b E) : w.cell? ⟨b, 3, none⟩ = some (.int .i64 E.other) := h.cell rfl
theorem Cev.dir (h : Cev w b E) : w.cell? ⟨b, 4, none⟩ = some (.int .i64 E.dir) := h.cell rfl
theorem Cev.num (h : Cev w b E) : w.cell? ⟨b, 5, none⟩ = some (.int .i64 E.num) := h.cell rfl
theorem Cev.who (h : Cev w b E) : w.cell? ⟨b, 6, none⟩ = some (.string E.who) := h.cell rfl
theorem Cev.whom (h : Cev w b E) : w.cell? ⟨b, 7, none⟩ = some (.string E.whom) := h.cell rfl
theorem Cev.thing (h : Cev w b E) : w.cell? ⟨b, 8, none⟩ = some (.string E.thing) := h.cell rfl
theorem Cev.text (h : Cev w b E) : w.cell? ⟨b, 9, none⟩ = some (.string E.text) := h.cell rfl
theorem Cev.behind {B : Nat} (h : Cev w b E) (hb : Below B w w') (hB : w.heap.size ≤ B) : Cev w' b E := by
  have := h.lt
  unfold Cev; rw [hb.block _ (by omega)]; exact h
theorem Cev.alloc (h : Cev w b E) (o : Obj) : Cev (w.alloc o) b E := by
  unfold Cev; rw [Below.heap_alloc _ _ _ h.lt]; exact h
theorem Cev.put (h : Cev w b E) (k : Nat) (hk : k < 6) (x : Int) : Cev (w.setCell ⟨b, 10 + k, none⟩ (.int .i64 x)) b (E.setBy k x) := by
  unfold Cev at h ⊢
  rw [setCell_eq_setRow w b (10 + k) _ _ _ _ h, setRow_heap w b _ _ _ _ h, E.set_by k hk]
theorem Cev.other (h : Cev w b E) {c : Nat} (hc : b ≠ c) (o : Nat) (x : Value) : Cev (w.setCell ⟨c, o, none⟩ x) b E := by
  unfold Cev; rw [Below.heap_setCell _ _ _ _ hc]; exact h
theorem cev_new (w : World) (E : Ev) : Cev (w.alloc (.cells E.cells 62)) w.heap.size E := heap_alloc_new w _

end

section
variable {ops : Array Oper} {rest : List Oper} {op : Oper} {a : Act} {w : World} {Q : Exit → Act → World → Prop}
/-- The whole event is read. -/
theorem wl_event (x : Operand) (ho : op.op = .load 62 x) (hw : Region.wanted op (yielded ops a.tmps) = true) (b : Nat) (E : Ev)
    (hx : a.eval x = .pointer (some ⟨b, 0, none⟩)) (hc : Cev w b E) (h : wpList Tryz.prog ops Q rest (a.put op.dst (.agg E.cells)) w) : wpList Tryz.prog ops Q (op :: rest) a w :=
  wl_wanted hw (wp_load_row 62 x ho b hx 62 E.cells (0, 0) _ hc Tryz.underlying62 rfl (by rw [E.size]; exact Tryz.sizeEvent) h)
end
end Go.Proofs.YtaifjndkgfffpaaGreatDoor
/-
  What people type: plain mathematics of texts cut at a byte, words, verbs, nouns, orders.
-/
namespace Go.Proofs.YtaifjndkgfffpaaGreatDoor
set_option linter.unusedVariables false

/-- The text of these bytes. -/
def bs (l : List UInt8) : ByteArray := ⟨l.toArray⟩
theorem bs_data (l : List UInt8) : (bs l).data.toList = l := by simp [bs]
theorem bs_of (s : ByteArray) : bs s.data.toList = s := by cases s; simp [bs]
theorem bs_size (l : List UInt8) : (bs l).size = l.length := by simp [bs, ByteArray.size]
theorem size_len (s : ByteArray) : s.data.toList.length = s.size := by cases s; simp [ByteArray.size]

/-- What stands ahead of the first c, what stands behind it, whether there is one. -/
def cutL (c : UInt8) : List UInt8 → List UInt8 × List UInt8 × Bool
  | [] => ([], [], false)
  | x :: r => if x = c then ([], r, true) else (x :: (cutL c r).1, (cutL c r).2.1, (cutL c r).2.2)

theorem cut_hit (c : UInt8) : ∀ (l : List UInt8) (i : Nat), Lib.indexByte l c = (i : Int) → cutL c l = (l.take i, l.drop (i + 1), true)
  | [], i, h => by simp [Lib.indexByte] at h
  | x :: r, i, h => by
    unfold Lib.indexByte at h
    by_cases hx : x = c
    · subst hx
      simp at h
      have : i = 0 := by omega
      subst this
      simp [cutL]
    · rw [if_neg (by simpa using hx)] at h
      by_cases h1 : Lib.indexByte r c = -1
      · rw [if_pos (by simp [h1])] at h; omega
      · rw [if_neg (by simpa using h1)] at h
        have hge := Lib.indexByte_ge r c
        obtain ⟨j, hj⟩ : ∃ j : Nat, i = j + 1 := ⟨i - 1, by omega⟩
        subst hj
        have := cut_hit c r j (by omega)
        simp [cutL, hx, this]

theorem cut_miss (c : UInt8) : ∀ (l : List UInt8), Lib.indexByte l c = -1 → cutL c l = (l, [], false)
  | [], _ => rfl
  | x :: r, h => by
    unfold Lib.indexByte at h
    by_cases hx : x = c
    · subst hx; simp at h
    · rw [if_neg (by simpa using hx)] at h
      have hge := Lib.indexByte_ge r c
      have h1 : Lib.indexByte r c = -1 := by
        by_cases h1 : Lib.indexByte r c = -1
        · exact h1
        · rw [if_neg (by simpa using h1)] at h; omega
      have := cut_miss c r h1
      simp [cutL, hx, this]

theorem cut_bound (c : UInt8) : ∀ (l : List UInt8) (i : Nat), Lib.indexByte l c = (i : Int) → i < l.length
  | [], i, h => by simp [Lib.indexByte] at h
  | x :: r, i, h => by
    unfold Lib.indexByte at h
    by_cases hx : x = c
    · subst hx; simp at h; simp; omega
    · rw [if_neg (by simpa using hx)] at h
      by_cases h1 : Lib.indexByte r c = -1
      · rw [if_pos (by simp [h1])] at h; omega
      · rw [if_neg (by simpa using h1)] at h
        have hge := Lib.indexByte_ge r c
        have := cut_bound c r (i - 1) (by omega)
        simp; omega

theorem cut_len (c : UInt8) : ∀ (l : List UInt8), (cutL c l).1.length + (cutL c l).2.1.length ≤ l.length
  | [] => by simp [cutL]
  | x :: r => by
    have := cut_len c r
    by_cases hx : x = c
    · simp [cutL, hx]
    · simp [cutL, hx]; omega

/-- A to Z as a to z. -/
def loB (b : UInt8) : UInt8 := if 65 ≤ b.toNat ∧ b.toNat ≤ 90 then b + 32 else b
def lowerL (l : List UInt8) : List UInt8 := l.map loB

/-- A word, if it is one. -/
def one (acc : List UInt8) : List (List UInt8) := if acc = [] then [] else [lowerL acc]

/-- The words of a text; acc: of the one that stands there, what was gone through. -/
def sp : List UInt8 → List UInt8 → List (List UInt8)
  | acc, [] => one acc
  | acc, x :: r => if x = 32 then one acc ++ sp [] r else sp (acc ++ [x]) r

/-- The verbs, by number. -/
def verbs : List (List UInt8) := [[110, 111, 114, 116, 104], [101, 97, 115, 116], [117, 112], [115, 111, 117, 116, 104], [119, 101, 115, 116], [100, 111, 119, 110], [108, 111, 111, 107], [103, 101, 116], [100, 114, 111, 112], [112, 117, 116], [103, 105, 118, 101], [115, 97, 121], [111, 112, 101, 110], [99, 108, 111, 115, 101], [108, 105, 103, 104, 116], [100, 111, 117, 115, 101], [119, 101, 97, 114], [100, 111, 102, 102], [104, 105, 116], [105, 110, 118, 101, 110, 116, 111, 114, 121], [113, 117, 105, 116]]

theorem verbs_len : verbs.length = 21 := rfl

/-- The first verb that begins with a word that is not empty. -/
def verbL (w : List UInt8) : Option Nat := if w = [] then none else verbs.findIdx? (fun v => w.isPrefixOf v)

/-- What Verb answers. -/
def verbA (w : List UInt8) : Int × Int := match verbL w with | some v => (v, 0) | none => (0, 3)

/-- A number of one or two digits, the first one not 0. -/
def numL : List UInt8 → Option Nat
  | [a] => if 49 ≤ a.toNat ∧ a.toNat ≤ 57 then some (a.toNat - 48) else none
  | [a, b] => if 49 ≤ a.toNat ∧ a.toNat ≤ 57 ∧ 48 ≤ b.toNat ∧ b.toNat ≤ 57 then some ((a.toNat - 48) * 10 + (b.toNat - 48)) else none
  | _ => none

theorem num_bound {l : List UInt8} {n : Nat} (h : numL l = some n) : 1 ≤ n ∧ n ≤ 99 := by
  match l, h with
  | [a], h =>
    by_cases hd : 49 ≤ a.toNat ∧ a.toNat ≤ 57
    · simp [numL, hd] at h; omega
    · simp [numL, hd] at h
  | [a, b], h =>
    by_cases hd : 49 ≤ a.toNat ∧ a.toNat ≤ 57 ∧ 48 ≤ b.toNat ∧ b.toNat ≤ 57
    · simp [numL, hd] at h; omega
    · simp [numL, hd] at h
  | [], h => simp [numL] at h
  | a :: b :: c :: r, h => simp [numL] at h

/-- What Noun answers: how manieth, which name, all of it. -/
def allW : List UInt8 := [97, 108, 108]
def nounT (first name : List UInt8) : Option (Nat × List UInt8 × Bool) :=
  if name = [] ∨ 46 ∈ name then none else if first = allW then some (1, name, true) else match numL first with | some n => some (n, name, false) | none => none
def nounL (w : List UInt8) : Option (Nat × List UInt8 × Bool) :=
  if w = allW then some (1, [], true) else if (cutL 46 w).2.2 = true then nounT (cutL 46 w).1 (cutL 46 w).2.1 else nounT [49] w

def calledL (d : Nat) : List UInt8 := if d < 6 then verbs.getD d [] else []

end Go.Proofs.YtaifjndkgfffpaaGreatDoor
/-
  The verbs in their memory.
-/
namespace Go.Proofs.YtaifjndkgfffpaaGreatDoor
open Go.RowKit
set_option linter.unusedVariables false

/-- The verbs' cells. -/
def vcells : Array Value := (verbs.map (fun v => Value.string (bs v))).toArray
theorem vcells_get (i : Nat) (h : i < 21) : vcells[i]? = some (.string (bs (verbs.getD i []))) := by
  have hl : verbs.length = 21 := rfl
  simp [vcells, List.getD, List.getElem?_eq_getElem (show i < verbs.length by omega)]
/-- The verbs lie where they were laid. -/
def Vb (w : World) : Prop := ∃ t fr, w.heap[(1 : Nat)]? = some (.cells vcells t fr)
theorem Vb.lt {w : World} (h : Vb w) : 1 < w.heap.size := by
  obtain ⟨t, fr, h⟩ := h; exact (Array.getElem?_eq_some_iff.1 h).1
theorem Vb.below {w w' : World} {B : Nat} (h : Vb w) (hb : Below B w w') (hB : w.heap.size ≤ B) : Vb w' := by
  have hlt := h.lt
  obtain ⟨t, fr, h⟩ := h
  exact ⟨t, fr, by rw [hb.block _ (by omega)]; exact h⟩
theorem Vb.alloc {w : World} (h : Vb w) (o : Obj) : Vb (w.alloc o) := h.below ((Below.refl w.heap.size w).alloc (Nat.le_refl _) o) (Nat.le_refl _)
theorem Vb.drewN {w : World} (h : Vb w) (n : Nat) : Vb (w.drewN n) := h.below (below_drewN (Below.refl w.heap.size w) n) (Nat.le_refl _)
theorem Vb.cell {w : World} (h : Vb w) (i : Nat) (hi : i < 21) : w.cell? ⟨1, i, none⟩ = some (.string (bs (verbs.getD i []))) := by
  obtain ⟨t, fr, h⟩ := h
  simp only [World.cell?, h]
  exact vcells_get i hi
end Go.Proofs.YtaifjndkgfffpaaGreatDoor
/-
  The contract of Called.
-/
namespace Go.Proofs.YtaifjndkgfffpaaGreatDoor
open Go.RowKit
set_option linter.unusedVariables false

def calledI (d : Int) : List UInt8 := if 0 ≤ d then calledL d.toNat else []
theorem calledI_nat (k : Nat) : calledI k = calledL k := by simp [calledI]

set_option maxHeartbeats 1000000 in
theorem called_any (d : Int) (w : World) (hv : Vb w) : Calls Tryz.prog 85 #[.int .i64 d] w fun e w' => e = .returned (.string (bs (calledI d))) ∧ w' = w := by
  by_cases h0 : 0 ≤ d
  · obtain ⟨k, rfl⟩ : ∃ k : Nat, d = k := ⟨d.toNat, by omega⟩
    by_cases h6 : k < 6
    · have hc := hv.cell k (by omega)
      have HV := hide (show calledI (k : Int) = verbs.getD k [] by simp [calledI, calledL, h6])
      clear hv
      go_enter Tryz.func85, Tryz.ntmps85
      go_wp2
      go_ret
      exact ⟨ret_str (by rw [HV.out]; simp), rfl⟩
    · have HV := hide (show calledI (k : Int) = [] by simp [calledI, calledL, h6])
      clear hv
      go_enter Tryz.func85, Tryz.ntmps85
      go_wp2
      go_ret
      exact ⟨ret_str (by rw [HV.out]; rfl), rfl⟩
  · have HV := hide (show calledI d = [] by simp [calledI, h0])
    clear hv
    go_enter Tryz.func85, Tryz.ntmps85
    go_wp2
    go_ret
    exact ⟨ret_str (by rw [HV.out]; rfl), rfl⟩
end Go.Proofs.YtaifjndkgfffpaaGreatDoor
