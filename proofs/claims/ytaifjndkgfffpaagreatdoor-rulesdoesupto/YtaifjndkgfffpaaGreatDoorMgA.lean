/-
  Plain mathematics of things in boxes in boxes: where a chain of boxes ends; that a chain which does not end within nine steps never does; what is inside of what. Nothing of the program.
-/
import Derived.WalkKit
import Derived.Test.YtaifjndkgfffpaaGreatDoorBs
import Derived.Deep.WholeRow
namespace Go.Proofs.YtaifjndkgfffpaaGreatDoor
set_option linter.unusedVariables false

/-- A list without repeats of numbers from 0 to n-1 has at most n members. -/
theorem pigeon (n : Nat) : ∀ (S : List Int), S.Nodup → (∀ s ∈ S, 0 ≤ s ∧ s < n) → S.length ≤ n := by
  induction n with
  | zero =>
    intro S _ h
    cases S with
    | nil => simp
    | cons a S => have := h a (List.mem_cons_self ..); omega
  | succ n ih =>
    intro S hn h
    by_cases hm : (n : Int) ∈ S
    · have h1 := ih (S.erase n) (hn.erase _) (fun s hs => by
        have hs' := (hn.mem_erase_iff).1 hs
        have := h s hs'.2
        omega)
      have h2 := List.length_erase_of_mem hm
      omega
    · have := ih S hn (fun s hs => by
        have h1 := h s hs
        have : s ≠ n := fun e => hm (e ▸ hs)
        omega)
      omega

section
variable (wh at' : Int → Int) (on : Int → Bool)

/-- From thing i, box after box: the last thing that is in no box, and whether all boxes on the way are open; none: the way leads out of what there is, or is not at its end in n steps. -/
def chase : Nat → Int → Bool → Option (Int × Bool)
  | 0, _, _ => none
  | n + 1, i, o => if 0 ≤ i ∧ i < 9 then (if wh i = 2 then chase n (at' i) (o && on (at' i)) else some (i, o)) else none

/-- What was seen on the way to i. -/
structure Way (S : List Int) (i : Int) : Prop where
  nodup : S.Nodup
  inn : ∀ s ∈ S, 0 ≤ s ∧ s < 9
  next : ∀ s ∈ S, wh s = 2 ∧ (at' s ∈ S ∨ at' s = i)

variable {wh at' on}

theorem Way.cons {S : List Int} {i : Int} (h : Way wh at' S i) (hi : 0 ≤ i ∧ i < 9) (hn : i ∉ S) (hw : wh i = 2) : Way wh at' (i :: S) (at' i) := by
  refine ⟨List.nodup_cons.2 ⟨hn, h.nodup⟩, fun s hs => ?_, fun s hs => ?_⟩
  · rcases List.mem_cons.1 hs with rfl | hs
    · exact hi
    · exact h.inn s hs
  · rcases List.mem_cons.1 hs with rfl | hs
    · exact ⟨hw, .inr rfl⟩
    · obtain ⟨h1, h2⟩ := h.next s hs
      refine ⟨h1, .inl ?_⟩
      rcases h2 with h2 | h2
      · exact List.mem_cons_of_mem _ h2
      · rw [h2]; exact List.mem_cons_self ..

theorem Way.len {S : List Int} {i : Int} (h : Way wh at' S i) (hi : 0 ≤ i ∧ i < 9) (hn : i ∉ S) : S.length < 9 := by
  have := pigeon 9 (i :: S) (List.nodup_cons.2 ⟨hn, h.nodup⟩) (fun s hs => by
    rcases List.mem_cons.1 hs with rfl | hs
    · exact hi
    · exact h.inn s hs)
  simp only [List.length_cons] at this
  omega

/-- Once round, it goes round for ever. -/
theorem Way.round {S : List Int} {i : Int} (h : Way wh at' S i) (hm : i ∈ S) : ∀ (n : Nat) (j : Int) (o : Bool), j ∈ S → chase wh at' on n j o = none := by
  intro n
  induction n with
  | zero => intros; rfl
  | succ n ih =>
    intro j o hj
    obtain ⟨h1, h2⟩ := h.next j hj
    simp only [chase]
    rw [if_pos (h.inn j hj), if_pos h1]
    refine ih _ _ ?_
    rcases h2 with h2 | h2
    · exact h2
    · rw [h2]; exact hm

variable (wh at')

/-- Is thing i that box, or in it, or in what is in it? -/
def ins : Nat → Int → Int → Bool
  | 0, _, _ => false
  | n + 1, i, b => if i = b then true else if 0 ≤ i ∧ i < 9 ∧ wh i = 2 then ins n (at' i) b else false

variable {wh at'}

theorem Way.never {S : List Int} {i : Int} (h : Way wh at' S i) (hm : i ∈ S) (b : Int) (hb : b ∉ S) : ∀ (n : Nat) (j : Int), j ∈ S → ins wh at' n j b = false := by
  intro n
  induction n with
  | zero => intros; rfl
  | succ n ih =>
    intro j hj
    obtain ⟨h1, h2⟩ := h.next j hj
    have hjb : j ≠ b := fun e => hb (e ▸ hj)
    have hin := h.inn j hj
    simp only [ins]
    rw [if_neg hjb, if_pos ⟨hin.1, hin.2, h1⟩]
    refine ih _ ?_
    rcases h2 with h2 | h2
    · exact h2
    · rw [h2]; exact hm

end
end Go.Proofs.YtaifjndkgfffpaaGreatDoor
/-
  Lands: what one holds, and its 165 cells in memory; small functions' contracts.
-/
namespace Go.Proofs.YtaifjndkgfffpaaGreatDoor
open Go.RowKit
set_option linter.unusedVariables false

/-- A land. -/
structure Ld where
  rname : Nat → ByteArray
  dark : Nat → Bool
  exit : Nat → Nat → Int
  shut : Nat → Nat → Bool
  tname : Nat → ByteArray
  kind : Nat → Int
  wh : Nat → Int
  loc : Nat → Int
  on : Nat → Bool
  bname : Nat → ByteArray
  here : Nat → Bool
  keen : Nat → Bool
  room : Nat → Int
  health : Nat → Int
  foe : Nat → Int

namespace Ld
variable (L : Ld)
def roomCell (r : Nat) : Nat → Value
  | 0 => .string (L.rname r)
  | 1 => .bool (L.dark r)
  | j + 2 => if j < 6 then .int .i64 (L.exit r j) else .bool (L.shut r (j - 6))
def thingCell (i : Nat) : Nat → Value
  | 0 => .string (L.tname i)
  | 1 => .int .i64 (L.kind i)
  | 2 => .int .i64 (L.wh i)
  | 3 => .int .i64 (L.loc i)
  | _ => .bool (L.on i)
def beingCell (b : Nat) : Nat → Value
  | 0 => .string (L.bname b)
  | 1 => .bool (L.here b)
  | 2 => .bool (L.keen b)
  | 3 => .int .i64 (L.room b)
  | 4 => .int .i64 (L.health b)
  | _ => .int .i64 (L.foe b)
def cellAt (n : Nat) : Value :=
  if n < 84 then L.roomCell (n / 14) (n % 14) else if n < 129 then L.thingCell ((n - 84) / 5) ((n - 84) % 5) else L.beingCell ((n - 129) / 6) ((n - 129) % 6)
/-- Its cells in memory. -/
def cells : Array Value := Array.ofFn (n := 165) fun i => L.cellAt i.val
theorem size : L.cells.size = 165 := by simp [cells]
theorem get (n : Nat) (h : n < 165) : L.cells[n]? = some (L.cellAt n) := by
  rw [Array.getElem?_eq_getElem (by rw [size]; exact h)]; simp [cells]
theorem at_thing (i j : Nat) (hi : i < 9) (hj : j < 5) : L.cellAt (84 + i * 5 + j) = L.thingCell i j := by
  unfold cellAt
  rw [if_neg (by omega), if_pos (by omega)]
  have e1 : (84 + i * 5 + j - 84) / 5 = i := by omega
  have e2 : (84 + i * 5 + j - 84) % 5 = j := by omega
  rw [e1, e2]
theorem at_being (i j : Nat) (hi : i < 6) (hj : j < 6) : L.cellAt (129 + i * 6 + j) = L.beingCell i j := by
  unfold cellAt
  rw [if_neg (by omega), if_neg (by omega)]
  have e1 : (129 + i * 6 + j - 129) / 6 = i := by omega
  have e2 : (129 + i * 6 + j - 129) % 6 = j := by omega
  rw [e1, e2]
theorem at_room (r j : Nat) (hr : r < 6) (hj : j < 14) : L.cellAt (r * 14 + j) = L.roomCell r j := by
  unfold cellAt
  rw [if_pos (by omega)]
  have e1 : (r * 14 + j) / 14 = r := by omega
  have e2 : (r * 14 + j) % 14 = j := by omega
  rw [e1, e2]
end Ld

/-- Block b holds the land L. -/
def Cod (w : World) (b : Nat) (L : Ld) : Prop := w.heap[b]? = some (.cells L.cells 34 (0, 0))

section
variable {w w' : World} {b : Nat} {L : Ld}
theorem Cod.lt (h : Cod w b L) : b < w.heap.size := (Array.getElem?_eq_some_iff.1 h).1
theorem Cod.cell (h : Cod w b L) (n : Nat) (hn : n < 165) : w.cell? ⟨b, n, none⟩ = some (L.cellAt n) := by
  unfold Cod at h; rw [cell_of_row w b n _ _ _ h, L.get n hn]
theorem Cod.thing (h : Cod w b L) (i j : Nat) (hi : i < 9) (hj : j < 5) : w.cell? ⟨b, 84 + i * 5 + j, none⟩ = some (L.thingCell i j) := by
  rw [h.cell _ (by omega), L.at_thing i j hi hj]
theorem Cod.being (h : Cod w b L) (i j : Nat) (hi : i < 6) (hj : j < 6) : w.cell? ⟨b, 129 + i * 6 + j, none⟩ = some (L.beingCell i j) := by
  rw [h.cell _ (by omega), L.at_being i j hi hj]
theorem Cod.behind {B : Nat} (h : Cod w b L) (hb : Below B w w') (hB : w.heap.size ≤ B) : Cod w' b L := by
  have := h.lt
  unfold Cod; rw [hb.block _ (by omega)]; exact h
theorem Cod.alloc (h : Cod w b L) (o : Obj) : Cod (w.alloc o) b L := by
  unfold Cod; rw [Below.heap_alloc _ _ _ h.lt]; exact h
theorem Cod.set (h : Cod w b L) {c : Nat} (hc : b ≠ c) (o : Nat) (x : Value) : Cod (w.setCell ⟨c, o, none⟩ x) b L := by
  unfold Cod; rw [Below.heap_setCell _ _ _ _ hc]; exact h
theorem cod_new (w : World) (L : Ld) : Cod (w.alloc (.cells L.cells 34)) w.heap.size L := heap_alloc_new w _
end

theorem Tryz.sizeLand : (Tryz.prog.info? 34).map (·.size) = some 165 := by kernel_rfl

/-- The whole land is read. -/
theorem Cod.load {w : World} {b : Nat} {L : Ld} (h : Cod w b L) : (Instr.loadAt 34 (.pointer (some ⟨b, 0, none⟩))).run Tryz.prog w = .ok (.agg L.cells) w := by
  simp only [Instr.loadAt, Instr.sureAddr, Sem.run_bind, Sem.run_pure, Result.andThen_ok]
  exact run_loadVar_row w b 34 34 L.cells (0, 0) _ h Tryz.underlying34 rfl (by rw [L.size]; exact Tryz.sizeLand)

/-- Is there one of that number? -/
def amg (i n : Int) : Bool := decide (0 ≤ i) && decide (i < n)

theorem among_any (i n : Int) (w : World) : Calls Tryz.prog 61 #[.int .i64 i, .int .i64 n] w fun e w' => e = .returned (.bool (amg i n)) ∧ w' = w := by
  by_cases h0 : 0 ≤ i
  · go_enter Tryz.func61, Tryz.ntmps61
    go_wp2
    go_ret
    exact ⟨ret_bool (by simp [amg, h0]), rfl⟩
  · go_enter Tryz.func61, Tryz.ntmps61
    go_wp2
    go_ret
    exact ⟨ret_bool (by simp only [amg]; rw [decide_eq_false (by omega)]; rfl), rfl⟩

theorem amg_pos {i n : Int} (h : amg i n = true) : 0 ≤ i ∧ i < n := by simpa [amg] using h
theorem amg_mk {i n : Int} (h : 0 ≤ i) (h' : i < n) : amg i n = true := by simp [amg, h, h']
theorem amg_neg {i n : Int} (h : amg i n = false) : ¬ (0 ≤ i ∧ i < n) := by
  intro ⟨h1, h2⟩; rw [amg_mk h1 h2] at h; simp at h
theorem amg_no {i n : Int} (h : ¬ (0 ≤ i ∧ i < n)) : amg i n = false := by
  cases hx : amg i n with
  | false => rfl
  | true => exact absurd (amg_pos hx) h

/-- v is a list of numbers in memory, and these are they. -/
def Nums (w : World) (v : Value) (q : List Int) : Prop :=
  ∃ (av : Option Addr) (cap : Nat), v = .slice av q.length cap ∧ q.length ≤ cap ∧ cap ≤ maxLen ∧
    (0 < q.length → ∃ b off, av = some ⟨b, off, none⟩ ∧ ∀ i, i < q.length → w.cell? ⟨b, off + i, none⟩ = some (.int .i64 (q.getD i 0)))
end Go.Proofs.YtaifjndkgfffpaaGreatDoor
/-
  Lists of numbers: what is in one; the way out of box after box: contracts.
-/
namespace Go.Proofs.YtaifjndkgfffpaaGreatDoor
open Go.RowKit
set_option linter.unusedVariables false

theorem mem_take_succ {q : List Int} {k : Nat} (hk : k < q.length) {x : Int} (h : x ∈ q.take (k + 1)) (hn : x ∉ q.take k) : q.getD k 0 = x := by
  rw [List.take_succ_eq_append_getElem hk] at h
  rcases List.mem_append.1 h with h | h
  · exact absurd h hn
  · have := List.mem_singleton.1 h
    rw [this]; simp [hk]

theorem index_empty (av : Option Addr) (cap : Nat) (x : Int) (w : World) :
    Calls Tryz.prog 92 #[.slice av 0 cap, .int .i64 x] w fun e w' => e = .returned (.int .i64 (-1)) ∧ w' = w := by
  go_enter Tryz.func92, Tryz.ntmps92
  go_wp2
  go_loop [8] (fun i => i = .int .i64 0) (fun _ => 0)
  case atStart => rfl
  case round =>
    subst hrel
    go_wp2
    go_ret
    exact ⟨rfl, rfl⟩

set_option maxHeartbeats 400000 in
theorem index_cells (b off cap : Nat) (q : List Int) (x : Int) (w : World) (n : Nat) (hn : q.length = n) (hm : n ≤ 9223372036854775807) (hc : ∀ i, i < n → w.cell? ⟨b, off + i, none⟩ = some (.int .i64 (q.getD i 0))) :
    Calls Tryz.prog 92 #[.slice (some ⟨b, off, none⟩) n cap, .int .i64 x] w fun e w' => (∃ n : Int, e = .returned (.int .i64 n) ∧ (0 ≤ n ↔ x ∈ q)) ∧ w' = w := by
  have HC := hide hc
  clear hc
  have HN := hide hn
  clear hn
  go_enter Tryz.func92, Tryz.ntmps92
  go_wp2
  go_loop [8] (fun i => ∃ k : Nat, k ≤ n ∧ i = .int .i64 k ∧ x ∉ q.take k) (fun i => n - (intOf i).toNat)
  case atStart => exact ⟨0, Nat.zero_le _, rfl, by simp⟩
  case round =>
    obtain ⟨k, hk, rfl, hx⟩ := hrel
    have HX := hide hx
    clear hx
    by_cases hlt : k < n
    · have hcell := HC.out k hlt
      have hq : k < q.length := by rw [HN.out]; exact hlt
      generalize hy : q.getD k 0 = y at hcell
      have HY := hide hy
      clear hy
      by_cases he : x = y
      · have he' : (x == y) = true := by simp [he]
        have HE := hide he
        clear he
        go_wp2
        go_ret
        refine ⟨⟨_, rfl, ?_⟩, rfl⟩
        refine ⟨fun _ => ?_, fun _ => by omega⟩
        rw [HE.out, ← HY.out]; simp [hq]
      · have he' : (x == y) = false := by simp [he]
        have HE := hide he
        clear he
        go_wp2
        go_round
        case rel => exact ⟨k + 1, by omega, by go_num, fun hm => HE.out (by rw [← HY.out]; exact (mem_take_succ hq hm HX.out).symm)⟩
        case measure => simp [intOf]; omega
    · go_wp2
      go_ret
      refine ⟨⟨_, rfl, ?_⟩, rfl⟩
      have := HX.out
      rw [List.take_of_length_le (by rw [HN.out]; omega)] at this
      simp [this]

theorem contains_any (v : Value) (q : List Int) (x : Int) (w : World) (h : Nums w v q) :
    Calls Tryz.prog 83 #[v, .int .i64 x] w fun e w' => e = .returned (.bool (decide (x ∈ q))) ∧ w' = w := by
  obtain ⟨av, cap, rfl, hl, hm, hc⟩ := h
  unfold maxLen at hm
  by_cases h0 : 0 < q.length
  · obtain ⟨b, off, rfl, hcc⟩ := hc h0
    generalize hn : q.length = n at *
    have C := hide (index_cells b off cap q x w n hn (by omega) hcc)
    clear hc hcc hl hm h0 hn
    go_enter Tryz.func83, Tryz.ntmps83
    go_wp2_with fail
    refine C.out.mono ?_
    rintro e w1 ⟨⟨n, rfl, hn⟩, hw⟩
    rw [hw]
    clear hw w1
    have HN := hide hn
    clear hn
    go_wp2
    go_ret
    exact ⟨ret_bool (by simp [HN.out]), rfl⟩
  · have e : q = [] := List.eq_nil_of_length_eq_zero (by omega)
    subst e
    clear hc hl hm h0
    show Calls Tryz.prog 83 #[.slice av 0 cap, .int .i64 x] w _
    go_enter Tryz.func83, Tryz.ntmps83
    go_wp2_with fail
    refine (index_empty av cap x w).mono ?_
    rintro e w1 ⟨rfl, hw⟩
    rw [hw]
    clear hw w1
    go_wp2
    go_ret
    exact ⟨ret_bool (by simp), rfl⟩

def icells (q : List Int) : List Value := q.map (.int .i64)
theorem icells_length (q : List Int) : (icells q).length = q.length := by simp [icells]

theorem nums_own {w : World} {base : Nat} {v : Value} {q : List Int} (h : w.ownsRow base 3 1 v q.length (icells q)) : Nums w v q := by
  rcases h.2 with ⟨rfl, h0⟩ | ⟨g, cap, cur, rfl, hbg, hgg, hnc, hcm, hcs, htake⟩
  · rw [List.eq_nil_of_length_eq_zero h0]; exact ⟨none, 0, rfl, Nat.le_refl _, Nat.zero_le _, fun h => by simp at h⟩
  · refine ⟨some ⟨g, 0, none⟩, cap, rfl, hnc, hcm, fun _ => ⟨g, 0, rfl, fun i hi => ?_⟩⟩
    have := h.cells (g := g) rfl i (.int .i64 (q.getD i 0)) (by simp [icells, hi])
    by_cases h0 : i = 0
    · subst h0; simpa [Addr.add] using this
    · simpa [Addr.add, h0] using this

theorem own_shapeN {w : World} {base : Nat} {v : Value} {n : Nat} {xs : List Value} (h : w.ownsRow base 3 1 v n xs) : ∃ (av : Option Addr) (cap : Nat), v = .slice av n cap := by
  rcases h.2 with ⟨rfl, rfl⟩ | ⟨g, cap, cur, rfl, _⟩
  · exact ⟨_, _, rfl⟩
  · exact ⟨_, _, rfl⟩

theorem Tryz.info3 : (Tryz.prog.info? 3).map (fun i => (i.zero, i.size, i.bytes)) = some (some (.int .i64 0), 1, 8) := by kernel_rfl

/-- What a slice's value holds: how many. -/
def lenOf : Value → Nat
  | .slice _ n _ => n
  | _ => 0

/-- The way out: what was seen, and where it is. -/
def wayFrom (L : Ld) : Nat → List Int → Int → List Int
  | 0, S, _ => S
  | n + 1, S, i => if amg i 9 = true ∧ i ∉ S then (if L.wh i.toNat = 2 then wayFrom L n (S ++ [i]) (L.loc i.toNat) else S ++ [i]) else S

def wayL (L : Ld) (i : Int) : List Int := wayFrom L 10 [] i

structure WIn (S : List Int) : Prop where
  nodup : S.Nodup
  inn : ∀ s ∈ S, 0 ≤ s ∧ s < 9

theorem WIn.snoc {S : List Int} {i : Int} (h : WIn S) (hi : amg i 9 = true) (hn : i ∉ S) : WIn (S ++ [i]) ∧ S.length < 9 := by
  have hp := amg_pos hi
  have hin : ∀ s ∈ S ++ [i], 0 ≤ s ∧ s < 9 := by
    intro s hs
    rcases List.mem_append.1 hs with hs | hs
    · exact h.inn s hs
    · rw [List.mem_singleton.1 hs]; exact hp
  have hnd : (S ++ [i]).Nodup := by
    rw [List.nodup_append]
    refine ⟨h.nodup, by simp, fun a ha b hb e => ?_⟩
    rw [List.mem_singleton.1 hb] at e
    exact hn (e ▸ ha)
  have := pigeon 9 _ hnd hin
  simp at this
  exact ⟨⟨hnd, hin⟩, by omega⟩

/-- A round's head. -/
structure WRel (L : Ld) (w : World) (j : Int) (i : Int) (v : Value) (S : List Int) (wr : World) : Prop where
  own : wr.ownsRow (w.heap.size + 1) 3 1 v S.length (icells S)
  cod : Cod wr w.heap.size L
  low : Below w.heap.size w wr
  size : w.heap.size + 1 ≤ wr.heap.size
  win : WIn S
  len : S.length ≤ 9
  way : wayFrom L (10 - S.length) S i = wayL L j

theorem WRel.out {L : Ld} {w wr : World} {j i : Int} {v : Value} {S : List Int} (h : WRel L w j i v S wr) (hn : amg i 9 = false ∨ i ∈ S) : S = wayL L j := by
  rw [← h.way]
  have := h.len
  obtain ⟨m, hm⟩ : ∃ m, 10 - S.length = m + 1 := ⟨9 - S.length, by omega⟩
  rw [hm]
  simp only [wayFrom]
  rw [if_neg]
  rintro ⟨h1, h2⟩
  rcases hn with hn | hn
  · rw [hn] at h1; simp at h1
  · exact h2 hn

theorem WRel.next {L : Ld} {w wr wr' : World} {j i : Int} {v v' : Value} {S : List Int} {u : Value} {t : TypeId} (h : WRel L w j i v S wr) (ha : amg i 9 = true) (hn : i ∉ S)
    (ho : wr'.ownsRow (w.heap.size + 1) 3 1 v' (S.length + 1) (icells S ++ [.int .i64 i])) (hg : (wr.alloc (.cells #[u] t)).grownBy wr' v.ownBlock) :
    (L.wh i.toNat = 2 → WRel L w j (L.loc i.toNat) v' (S ++ [i]) wr') ∧ (L.wh i.toNat ≠ 2 → S ++ [i] = wayL L j) ∧ Nums wr' v' (S ++ [i]) ∧ Below w.heap.size w wr' ∧ Cod wr' w.heap.size L ∧ lenOf v' = S.length + 1 := by
  have hw := h.win.snoc ha hn
  have hb : Below (w.heap.size + 1) wr wr' := by
    refine (Below.refl _ _ |>.alloc (by have := h.size; omega) _ : Below (w.heap.size + 1) wr (wr.alloc (.cells #[u] t))).grown hg (by have := h.size; simp; omega) ?_
    intro k hk
    exact (h.own.lt k (by simpa using hk)).1
  have hc : Cod wr' w.heap.size L := by
    have := h.cod
    unfold Cod at this ⊢
    rw [hb.block _ (by omega)]; exact this
  have hl : Below w.heap.size w wr' := h.low.trans (hb.mono (by omega))
  have ho' : wr'.ownsRow (w.heap.size + 1) 3 1 v' (S ++ [i]).length (icells (S ++ [i])) := by
    have e1 : (S ++ [i]).length = S.length + 1 := by simp
    have e2 : icells (S ++ [i]) = icells S ++ [.int .i64 i] := by simp [icells]
    rw [e1, e2]; exact ho
  have hlen := h.len
  obtain ⟨m, hm⟩ : ∃ m, 10 - S.length = m + 1 := ⟨9 - S.length, by omega⟩
  have hway := h.way
  rw [hm] at hway
  simp only [wayFrom] at hway
  rw [if_pos ⟨ha, hn⟩] at hway
  refine ⟨fun h2 => ⟨ho', hc, hl, by have := hb.size; have := h.size; omega, hw.1, by have := hw.2; simp; omega, ?_⟩, fun h2 => ?_, nums_own ho', hl, hc, ?_⟩
  · rw [if_pos h2] at hway
    rw [← hway]
    simp only [List.length_append, List.length_singleton]
    rw [show 10 - (S.length + 1) = m by omega]
  · rw [if_neg h2] at hway
    exact hway
  · obtain ⟨av, cap, rfl⟩ := own_shapeN ho
    rfl
end Go.Proofs.YtaifjndkgfffpaaGreatDoor
/-
  The way out of box after box: its contract.
-/
namespace Go.Proofs.YtaifjndkgfffpaaGreatDoor
open Go.RowKit
set_option linter.unusedVariables false

set_option maxRecDepth 100000 in
set_option maxHeartbeats 1000000 in
theorem way_any (L : Ld) (j : Int) (w : World) :
    Calls Tryz.prog 62 #[.agg L.cells, .int .i64 j] w fun e w' => ∃ v, e = .returned v ∧ Nums w' v (wayL L j) ∧ Below w.heap.size w w' := by
  obtain ⟨i0, hi0, hz0, hz1, hz2⟩ := info_parts Tryz.info3
  go_enter Tryz.func62, Tryz.ntmps62
  go_wp2
  go_loopw [1, 5] (fun iv v wr => ∃ (i : Int) (S : List Int), iv = .int .i64 i ∧ WRel L w j i v S wr) (fun _ v _ => 10 - lenOf v)
  case atStart => exact ⟨j, [], rfl, World.ownsRow_nil _ _ _ _, cod_new w L, (Below.refl _ _).alloc (Nat.le_refl _) _, by simp, ⟨List.nodup_nil, fun s h => by simp at h⟩, by simp, rfl⟩
  case round =>
    obtain ⟨i, S, rfl, R⟩ := hrel
    obtain ⟨av, cap, rfl⟩ := own_shapeN R.own
    have HR := hide R
    clear R
    go_wp2_with fail
    refine (among_any i 9 _).mono ?_
    rintro e w1 ⟨rfl, hw⟩
    rw [hw]
    clear hw w1
    cases ha : amg i 9 with
    | false =>
      have HA := hide ha
      clear ha
      go_wp2
      go_ret
      exact ⟨_, rfl, by rw [← HR.out.out (.inl HA.out)]; exact nums_own HR.out.own, HR.out.low⟩
    | true =>
      have HA := hide ha
      obtain ⟨h0, h9⟩ := amg_pos ha
      clear ha
      obtain ⟨k, rfl⟩ := Int.eq_ofNat_of_zero_le h0
      by_cases hm : ((k : Int)) ∈ S
      · have HM := hide hm
        clear hm
        go_wp2_with fail
        refine (contains_any _ S _ _ (nums_own HR.out.own)).mono ?_
        rintro e w1 ⟨rfl, hw⟩
        rw [hw, decide_eq_true HM.out]
        clear hw w1
        go_wp2
        go_ret
        exact ⟨_, rfl, by rw [← HR.out.out (.inr HM.out)]; exact nums_own HR.out.own, HR.out.low⟩
      · have HM := hide hm
        clear hm
        go_wp2_with fail
        refine (contains_any _ S _ _ (nums_own HR.out.own)).mono ?_
        rintro e w1 ⟨rfl, hw⟩
        rw [hw, decide_eq_false HM.out]
        clear hw w1
        have hlen := HR.out.len
        have hsz := HR.out.size
        go_wp2_with (at_builtin; refine wpList_append_own_at _ rfl (.tmp 14) (.tmp 16) 59 rfl (w.heap.size + 1) 3 i0 (.int .i64 0) 1 8 Tryz.underlying59 hi0 hz0 hz1 hz2 rfl (by decide) _ S.length (icells S) rfl (HR.out.own.alloc _) ⟨wr.heap.size, 0, none⟩ 1 1 [.int .i64 (k : Int)] rfl ?a1 ?a2 ?a3 ?a4 ?a5 ?a6 ?_)
        case a1 => rfl
        case a2 =>
          intro j u hj
          match j, hj with
          | 0, hj => simp at hj; subst hj; simp [Addr.add]
        case a3 => intro u hu; simp at hu; subst hu; rfl
        case a4 => unfold maxLen; omega
        case a5 => omega
        case a6 => simp; omega
        intro v' w1 ho hg _ _
        have N := HR.out.next HA.out HM.out ho hg
        obtain ⟨av', cap', rfl⟩ := own_shapeN ho
        clear ho hg
        obtain ⟨N1, N2, N3, N4, N5, N6⟩ := N
        simp only [Int.toNat_natCast] at N1 N2
        have c2 : w1.cell? ⟨w.heap.size, 84 + k * 5 + 2, none⟩ = some (.int .i64 (L.wh k)) := N5.thing k 2 (by omega) (by omega)
        have c3 : w1.cell? ⟨w.heap.size, 84 + k * 5 + 3, none⟩ = some (.int .i64 (L.loc k)) := N5.thing k 3 (by omega) (by omega)
        replace N1 := hide N1
        replace N2 := hide N2
        replace N3 := hide N3
        replace N4 := hide N4
        replace N5 := hide N5
        replace N6 := hide N6
        by_cases h2 : L.wh k = 2
        · have H2 := hide h2
          have h2' : (L.wh k != 2) = false := by simp [h2]
          clear h2
          go_wp2
          go_roundw
          case rel => exact ⟨_, _, rfl, N1.out H2.out⟩
          case measure => simp [lenOf]; omega
        · have H2 := hide h2
          have h2' : (L.wh k != 2) = true := by simp [h2]
          clear h2
          go_wp2
          go_ret
          exact ⟨_, rfl, by rw [← N2.out H2.out]; exact N3.out, N4.out⟩
end Go.Proofs.YtaifjndkgfffpaaGreatDoor
/-
  What the walk takes at an operation on a whole land, or on a room, a thing, a being of it.
-/
namespace Go.Proofs.YtaifjndkgfffpaaGreatDoor
open Go.RowKit
set_option linter.unusedVariables false

section
variable {P : Program} {ops : Array Oper} {rest : List Oper} {op : Oper} {a : Act} {w : World} {Q : Exit → Act → World → Prop}

/-- The whole land is read. -/
theorem wl_land (x : Operand) (ho : op.op = .load 34 x) (hw : Region.wanted op (yielded ops a.tmps) = true) (b : Nat) (L : Ld)
    (hx : a.eval x = .pointer (some ⟨b, 0, none⟩)) (hc : Cod w b L) (h : wpList Tryz.prog ops Q rest (a.put op.dst (.agg L.cells)) w) : wpList Tryz.prog ops Q (op :: rest) a w :=
  wl_wanted hw (wp_load_row 34 x ho b hx 34 L.cells (0, 0) _ hc Tryz.underlying34 rfl (by rw [L.size]; exact Tryz.sizeLand) h)

/-- A piece of a block is read. -/
theorem wl_mid (ty : TypeId) (x : Operand) (ho : op.op = .load ty x) (hw : Region.wanted op (yielded ops a.tmps) = true) (b o : Nat) (cs : List Value) (d : TypeDesc)
    (hx : a.eval x = .pointer (some ⟨b, o, none⟩)) (hc : w.rangeAt b o cs) (hu : P.underlying ty = some d) (hd : d.isRow = true) (hi : (P.info? ty).map (·.size) = some cs.length)
    (h : wpList P ops Q rest (a.put op.dst (.agg cs.toArray)) w) : wpList P ops Q (op :: rest) a w :=
  wl_wanted hw (wp_load_mid ty x ho b o hx cs d hc hu hd hi h)

/-- A whole value goes into the block that was made last. -/
theorem wl_new (t : TypeId) (x y : Operand) (ho : op.op = .store t x y) (hw : Region.wanted op (yielded ops a.tmps) = true) {W : World} (c c' : Array Value) (hW : W = w.alloc (.cells c t))
    (hx : a.eval x = .pointer (some ⟨w.heap.size, 0, none⟩)) (hy : a.eval y = .agg c') (hi : (P.info? t).map (·.size) = some c'.size) (hs : c.size = c'.size) (h1 : c'.all (·.oneCell') = true)
    (h : wpList P ops Q rest (a.put op.dst undef) (w.alloc (.cells c' t))) : wpList P ops Q (op :: rest) a W := by
  subst hW
  refine wl_wanted hw ?_
  unfold Oper.wp execOp
  simp only [ho, hx, hy, Instr.storeAt, Instr.sureAddr, Sem.run_bind, Sem.run_pure, Result.andThen_ok, run_storeVar_new w t c c' hi hs h1]
  exact h

/-- An element of an array by value that is itself a struct. -/
theorem wl_index (t e : TypeId) (x y : Operand) (ho : op.op = .index t x y) (hw : Region.wanted op (yielded ops a.tmps) = true) (n s k : Nat) (cs : Array Value) (d : TypeDesc)
    (hx : a.eval x = .agg cs) (hy : a.eval y = .int .i64 (k : Int)) (hu : P.underlying t = some (.array n e)) (he : P.underlying e = some d) (hd : d.isRow = true) (hi : (P.info? e).map (·.size) = some s) (hk : k < n)
    (h : wpList P ops Q rest (a.put op.dst (.agg (cs.extract (k * s) (k * s + s)))) w) : wpList P ops Q (op :: rest) a w := by
  refine wl_wanted hw ?_
  have hagg : (isAgg e).run P w = .ok true w := by
    unfold isAgg
    rw [Sem.run_bind, run_underlying he w]
    cases d <;> simp_all
  have hsz : (sizeOf e).run P w = .ok s w := by
    cases hq : P.info? e with
    | none => simp [hq] at hi
    | some i =>
      have : i.size = s := by simpa [hq] using hi
      simp [sizeOf, typeInfo, hq, this]
  unfold Oper.wp execOp
  have hk' : (k : Int) < (n : Int) := by omega
  have h0 : (0 : Int) ≤ (k : Int) := by omega
  simp only [ho, hx, hy, Instr.index, asIntOf, Sem.run_bind, Sem.run_pure, Result.andThen_ok, run_underlying hu, hk', h0, and_self, if_true, hsz, part, hagg, Int.toNat_natCast]
  exact h
end

namespace Ld
variable (L : Ld)
def tcells (i : Nat) : Array Value := #[.string (L.tname i), .int .i64 (L.kind i), .int .i64 (L.wh i), .int .i64 (L.loc i), .bool (L.on i)]
def bcells (b : Nat) : Array Value := #[.string (L.bname b), .bool (L.here b), .bool (L.keen b), .int .i64 (L.room b), .int .i64 (L.health b), .int .i64 (L.foe b)]
def scells (r : Nat) : Array Value := #[.bool (L.shut r 0), .bool (L.shut r 1), .bool (L.shut r 2), .bool (L.shut r 3), .bool (L.shut r 4), .bool (L.shut r 5)]
def rcells (r : Nat) : Array Value := #[.string (L.rname r), .bool (L.dark r), .int .i64 (L.exit r 0), .int .i64 (L.exit r 1), .int .i64 (L.exit r 2), .int .i64 (L.exit r 3), .int .i64 (L.exit r 4), .int .i64 (L.exit r 5),
  .bool (L.shut r 0), .bool (L.shut r 1), .bool (L.shut r 2), .bool (L.shut r 3), .bool (L.shut r 4), .bool (L.shut r 5)]
def roomsA : Array Value := L.cells.extract 0 84
def thingsA : Array Value := L.cells.extract 84 129
def beingsA : Array Value := L.cells.extract 129 165

theorem tcells_get (i j : Nat) (hj : j < 5) : (L.tcells i)[j]? = some (L.thingCell i j) := by
  match j, hj with
  | 0, _ => rfl
  | 1, _ => rfl
  | 2, _ => rfl
  | 3, _ => rfl
  | 4, _ => rfl
theorem bcells_get (i j : Nat) (hj : j < 6) : (L.bcells i)[j]? = some (L.beingCell i j) := by
  match j, hj with
  | 0, _ => rfl
  | 1, _ => rfl
  | 2, _ => rfl
  | 3, _ => rfl
  | 4, _ => rfl
  | 5, _ => rfl
theorem rcells_get (i j : Nat) (hj : j < 14) : (L.rcells i)[j]? = some (L.roomCell i j) := by
  match j, hj with
  | 0, _ => rfl
  | 1, _ => rfl
  | 2, _ => rfl
  | 3, _ => rfl
  | 4, _ => rfl
  | 5, _ => rfl
  | 6, _ => rfl
  | 7, _ => rfl
  | 8, _ => rfl
  | 9, _ => rfl
  | 10, _ => rfl
  | 11, _ => rfl
  | 12, _ => rfl
  | 13, _ => rfl

theorem things_at (k : Nat) (hk : k < 9) : L.thingsA.extract (k * 5) (k * 5 + 5) = L.tcells k := by
  apply Array.ext_getElem?
  intro j
  unfold thingsA
  simp only [Array.getElem?_extract, Array.size_extract, size]
  by_cases hj : j < 5
  · rw [if_pos (by omega), if_pos (by omega), L.tcells_get k j hj, L.get _ (by omega), ← L.at_thing k j hk hj]
    congr 2; omega
  · rw [if_neg (by omega), Array.getElem?_eq_none (by simp [tcells]; omega)]
theorem beings_at (k : Nat) (hk : k < 6) : L.beingsA.extract (k * 6) (k * 6 + 6) = L.bcells k := by
  apply Array.ext_getElem?
  intro j
  unfold beingsA
  simp only [Array.getElem?_extract, Array.size_extract, size]
  by_cases hj : j < 6
  · rw [if_pos (by omega), if_pos (by omega), L.bcells_get k j hj, L.get _ (by omega), ← L.at_being k j hk hj]
    congr 2; omega
  · rw [if_neg (by omega), Array.getElem?_eq_none (by simp [bcells]; omega)]
theorem rooms_at (k : Nat) (hk : k < 6) : L.roomsA.extract (k * 14) (k * 14 + 14) = L.rcells k := by
  apply Array.ext_getElem?
  intro j
  unfold roomsA
  simp only [Array.getElem?_extract, Array.size_extract, size]
  by_cases hj : j < 14
  · rw [if_pos (by omega), if_pos (by omega), L.rcells_get k j hj, L.get _ (by omega), ← L.at_room k j hk hj]
    congr 2; omega
  · rw [if_neg (by omega), Array.getElem?_eq_none (by simp [rcells]; omega)]
end Ld

section
variable {w : World} {b : Nat} {L : Ld}
theorem Cod.thingR (h : Cod w b L) (k : Nat) (hk : k < 9) : w.rangeAt b (84 + k * 5) (L.tcells k).toList := by
  intro j v hv
  have hj : j < 5 := by
    have := (List.getElem?_eq_some_iff.1 hv).1; simpa [Ld.tcells] using this
  rw [h.thing k j hk hj, ← hv]
  have := L.tcells_get k j hj
  simpa using this.symm
theorem Cod.roomsR (h : Cod w b L) : w.rangeAt b 0 L.roomsA.toList := World.rangeAt_of_block h 0 84
theorem Cod.thingsR (h : Cod w b L) : w.rangeAt b 84 L.thingsA.toList := World.rangeAt_of_block h 84 45
theorem Cod.beingsR (h : Cod w b L) : w.rangeAt b 129 L.beingsA.toList := World.rangeAt_of_block h 129 36
end

theorem Tryz.sizeThing : (Tryz.prog.info? 28).map (·.size) = some 5 := by kernel_rfl
theorem Tryz.sizeBeing : (Tryz.prog.info? 31).map (·.size) = some 6 := by kernel_rfl
theorem Tryz.sizeRoom : (Tryz.prog.info? 25).map (·.size) = some 14 := by kernel_rfl
theorem Tryz.sizeThings : (Tryz.prog.info? 29).map (·.size) = some 45 := by kernel_rfl
theorem Tryz.sizeBeings : (Tryz.prog.info? 32).map (·.size) = some 36 := by kernel_rfl
theorem Tryz.sizeRooms : (Tryz.prog.info? 26).map (·.size) = some 84 := by kernel_rfl

/-- A thing of a land is read whole. -/
theorem wl_thing {ops : Array Oper} {rest : List Oper} {op : Oper} {a : Act} {w : World} {Q : Exit → Act → World → Prop} (x : Operand) (ho : op.op = .load 28 x) (hw : Region.wanted op (yielded ops a.tmps) = true) (b k : Nat) (L : Ld)
    (hx : a.eval x = .pointer (some ⟨b, 84 + k * 5, none⟩)) (hc : Cod w b L) (hk : k < 9)
    (h : wpList Tryz.prog ops Q rest (a.put op.dst (.agg #[.string (L.tname k), .int .i64 (L.kind k), .int .i64 (L.wh k), .int .i64 (L.loc k), .bool (L.on k)])) w) : wpList Tryz.prog ops Q (op :: rest) a w :=
  wl_mid 28 x ho hw b (84 + k * 5) (L.tcells k).toList _ hx (hc.thingR k hk) Tryz.underlying28 rfl Tryz.sizeThing h
end Go.Proofs.YtaifjndkgfffpaaGreatDoor
/-
  More of what the walk takes: all rooms, things, beings; one of them.
-/
namespace Go.Proofs.YtaifjndkgfffpaaGreatDoor
open Go.RowKit
set_option linter.unusedVariables false

/-- Numbers as a machine has them (where they are reckoned with). -/
structure Wf (L : Ld) : Prop where
  exit : ∀ r d, r < 6 → d < 6 → -9223372036854775808 ≤ L.exit r d ∧ L.exit r d ≤ 9223372036854775807
  foe : ∀ b, b < 6 → -9223372036854775808 ≤ L.foe b ∧ L.foe b ≤ 9223372036854775807

theorem all_bad {n k : Nat} {f : Nat → Bool} (hk : k < n) (h : f k = false) : (List.range n).all f = false := by
  rw [Bool.eq_false_iff]
  intro hall
  have := List.all_eq_true.1 hall k (by simp [hk])
  rw [h] at this; simp at this
theorem all_ok {n : Nat} {f : Nat → Bool} (h : ∀ k, k < n → f k = true) : (List.range n).all f = true :=
  List.all_eq_true.2 fun k hk => h k (by simpa using hk)

section
variable {P : Program} {ops : Array Oper} {rest : List Oper} {op : Oper} {a : Act} {w : World} {Q : Exit → Act → World → Prop}
theorem wl_rooms (x : Operand) (ho : op.op = .load 26 x) (hw : Region.wanted op (yielded ops a.tmps) = true) (b : Nat) (L : Ld) (hx : a.eval x = .pointer (some ⟨b, 0, none⟩)) (hc : Cod w b L)
    (h : wpList Tryz.prog ops Q rest (a.put op.dst (.agg L.roomsA)) w) : wpList Tryz.prog ops Q (op :: rest) a w :=
  wl_mid 26 x ho hw b 0 L.roomsA.toList _ hx hc.roomsR Tryz.underlying26 rfl (by rw [Array.length_toList]; unfold Ld.roomsA; rw [Array.size_extract, L.size]; exact Tryz.sizeRooms) (by rw [Array.toArray_toList]; exact h)
theorem wl_beings (x : Operand) (ho : op.op = .load 32 x) (hw : Region.wanted op (yielded ops a.tmps) = true) (b : Nat) (L : Ld) (hx : a.eval x = .pointer (some ⟨b, 129, none⟩)) (hc : Cod w b L)
    (h : wpList Tryz.prog ops Q rest (a.put op.dst (.agg L.beingsA)) w) : wpList Tryz.prog ops Q (op :: rest) a w :=
  wl_mid 32 x ho hw b 129 L.beingsA.toList _ hx hc.beingsR Tryz.underlying32 rfl (by rw [Array.length_toList]; unfold Ld.beingsA; rw [Array.size_extract, L.size]; exact Tryz.sizeBeings) (by rw [Array.toArray_toList]; exact h)
theorem wl_things (x : Operand) (ho : op.op = .load 29 x) (hw : Region.wanted op (yielded ops a.tmps) = true) (b : Nat) (L : Ld) (hx : a.eval x = .pointer (some ⟨b, 84, none⟩)) (hc : Cod w b L)
    (h : wpList Tryz.prog ops Q rest (a.put op.dst (.agg L.thingsA)) w) : wpList Tryz.prog ops Q (op :: rest) a w :=
  wl_mid 29 x ho hw b 84 L.thingsA.toList _ hx hc.thingsR Tryz.underlying29 rfl (by rw [Array.length_toList]; unfold Ld.thingsA; rw [Array.size_extract, L.size]; exact Tryz.sizeThings) (by rw [Array.toArray_toList]; exact h)

theorem wl_iroom (x y : Operand) (ho : op.op = .index 26 x y) (hw : Region.wanted op (yielded ops a.tmps) = true) (k : Nat) (L : Ld) (hx : a.eval x = .agg L.roomsA) (hy : a.eval y = .int .i64 (k : Int)) (hk : k < 6)
    (h : wpList Tryz.prog ops Q rest (a.put op.dst (.agg (L.rcells k))) w) : wpList Tryz.prog ops Q (op :: rest) a w :=
  wl_index 26 25 x y ho hw 6 14 k L.roomsA _ hx hy Tryz.underlying26 Tryz.underlying25 rfl Tryz.sizeRoom hk (by rw [L.rooms_at k hk]; exact h)
theorem wl_ibeing (x y : Operand) (ho : op.op = .index 32 x y) (hw : Region.wanted op (yielded ops a.tmps) = true) (k : Nat) (L : Ld) (hx : a.eval x = .agg L.beingsA) (hy : a.eval y = .int .i64 (k : Int)) (hk : k < 6)
    (h : wpList Tryz.prog ops Q rest (a.put op.dst (.agg (L.bcells k))) w) : wpList Tryz.prog ops Q (op :: rest) a w :=
  wl_index 32 31 x y ho hw 6 6 k L.beingsA _ hx hy Tryz.underlying32 Tryz.underlying31 rfl Tryz.sizeBeing hk (by rw [L.beings_at k hk]; exact h)
theorem wl_ithing (x y : Operand) (ho : op.op = .index 29 x y) (hw : Region.wanted op (yielded ops a.tmps) = true) (k : Nat) (L : Ld) (hx : a.eval x = .agg L.thingsA) (hy : a.eval y = .int .i64 (k : Int)) (hk : k < 9)
    (h : wpList Tryz.prog ops Q rest (a.put op.dst (.agg (L.tcells k))) w) : wpList Tryz.prog ops Q (op :: rest) a w :=
  wl_index 29 28 x y ho hw 9 5 k L.thingsA _ hx hy Tryz.underlying29 Tryz.underlying28 rfl Tryz.sizeThing hk (by rw [L.things_at k hk]; exact h)

/-! A room, a being, a thing: laid in the block that was made last; read out of a block. -/
theorem wl_newR (x y : Operand) (ho : op.op = .store 25 x y) (hw : Region.wanted op (yielded ops a.tmps) = true) {W : World} (c : Array Value) (k : Nat) (L : Ld) (hW : W = w.alloc (.cells c 25))
    (hx : a.eval x = .pointer (some ⟨w.heap.size, 0, none⟩)) (hy : a.eval y = .agg (L.rcells k)) (hs : c.size = 14)
    (h : wpList Tryz.prog ops Q rest (a.put op.dst undef) (w.alloc (.cells (L.rcells k) 25))) : wpList Tryz.prog ops Q (op :: rest) a W :=
  wl_new 25 x y ho hw c (L.rcells k) hW hx hy Tryz.sizeRoom hs (by simp [Ld.rcells, Value.oneCell']) h
theorem wl_allR (x : Operand) (ho : op.op = .load 25 x) (hw : Region.wanted op (yielded ops a.tmps) = true) (g k : Nat) (L : Ld) (hx : a.eval x = .pointer (some ⟨g, 0, none⟩))
    (hg : w.heap[g]? = some (.cells (L.rcells k) 25 (0, 0))) (h : wpList Tryz.prog ops Q rest (a.put op.dst (.agg (L.rcells k))) w) : wpList Tryz.prog ops Q (op :: rest) a w :=
  wl_wanted hw (wp_load_row 25 x ho g hx 25 (L.rcells k) (0, 0) _ hg Tryz.underlying25 rfl Tryz.sizeRoom h)
theorem wl_newB (x y : Operand) (ho : op.op = .store 31 x y) (hw : Region.wanted op (yielded ops a.tmps) = true) {W : World} (c : Array Value) (k : Nat) (L : Ld) (hW : W = w.alloc (.cells c 31))
    (hx : a.eval x = .pointer (some ⟨w.heap.size, 0, none⟩)) (hy : a.eval y = .agg (L.bcells k)) (hs : c.size = 6)
    (h : wpList Tryz.prog ops Q rest (a.put op.dst undef) (w.alloc (.cells (L.bcells k) 31))) : wpList Tryz.prog ops Q (op :: rest) a W :=
  wl_new 31 x y ho hw c (L.bcells k) hW hx hy Tryz.sizeBeing hs (by simp [Ld.bcells, Value.oneCell']) h
theorem wl_allB (x : Operand) (ho : op.op = .load 31 x) (hw : Region.wanted op (yielded ops a.tmps) = true) (g k : Nat) (L : Ld) (hx : a.eval x = .pointer (some ⟨g, 0, none⟩))
    (hg : w.heap[g]? = some (.cells (L.bcells k) 31 (0, 0))) (h : wpList Tryz.prog ops Q rest (a.put op.dst (.agg (L.bcells k))) w) : wpList Tryz.prog ops Q (op :: rest) a w :=
  wl_wanted hw (wp_load_row 31 x ho g hx 31 (L.bcells k) (0, 0) _ hg Tryz.underlying31 rfl Tryz.sizeBeing h)
theorem wl_newT (x y : Operand) (ho : op.op = .store 28 x y) (hw : Region.wanted op (yielded ops a.tmps) = true) {W : World} (c : Array Value) (k : Nat) (L : Ld) (hW : W = w.alloc (.cells c 28))
    (hx : a.eval x = .pointer (some ⟨w.heap.size, 0, none⟩)) (hy : a.eval y = .agg (L.tcells k)) (hs : c.size = 5)
    (h : wpList Tryz.prog ops Q rest (a.put op.dst undef) (w.alloc (.cells (L.tcells k) 28))) : wpList Tryz.prog ops Q (op :: rest) a W :=
  wl_new 28 x y ho hw c (L.tcells k) hW hx hy Tryz.sizeThing hs (by simp [Ld.tcells, Value.oneCell']) h
theorem wl_allT (x : Operand) (ho : op.op = .load 28 x) (hw : Region.wanted op (yielded ops a.tmps) = true) (g k : Nat) (L : Ld) (hx : a.eval x = .pointer (some ⟨g, 0, none⟩))
    (hg : w.heap[g]? = some (.cells (L.tcells k) 28 (0, 0))) (h : wpList Tryz.prog ops Q rest (a.put op.dst (.agg (L.tcells k))) w) : wpList Tryz.prog ops Q (op :: rest) a w :=
  wl_wanted hw (wp_load_row 28 x ho g hx 28 (L.tcells k) (0, 0) _ hg Tryz.underlying28 rfl Tryz.sizeThing h)
end

/-- A round's head. -/
structure GdRel (L : Ld) (w wr : World) : Prop where
  cod : Cod wr w.heap.size L
  low : Below w.heap.size w wr

theorem GdRel.box {L : Ld} {w wr : World} (h : GdRel L w wr) (o : Obj) : GdRel L w (wr.alloc o) := ⟨h.cod.alloc o, h.low.alloc h.low.size o⟩
theorem GdRel.call {L : Ld} {w wr w1 : World} (h : GdRel L w wr) (hb : Below wr.heap.size wr w1) : GdRel L w w1 := ⟨h.cod.behind hb (Nat.le_refl _), h.low.trans (hb.mono h.low.size)⟩
theorem gd_start (L : Ld) (w : World) : GdRel L w (w.alloc (.cells L.cells 34)) := ⟨cod_new w L, (Below.refl _ _).alloc (Nat.le_refl _) _⟩

end Go.Proofs.YtaifjndkgfffpaaGreatDoor
/-
  The last of a way: plain facts.
-/
namespace Go.Proofs.YtaifjndkgfffpaaGreatDoor
open Go.RowKit
set_option linter.unusedVariables false

/-! ### The last of a way. -/
theorem wayFrom_win (L : Ld) : ∀ (n : Nat) (S : List Int) (i : Int), WIn S → WIn (wayFrom L n S i) ∧ (S ≠ [] → wayFrom L n S i ≠ []) := by
  intro n
  induction n with
  | zero => intro S i h; exact ⟨h, fun h => h⟩
  | succ n ih =>
    intro S i h
    simp only [wayFrom]
    by_cases hc : amg i 9 = true ∧ i ∉ S
    · rw [if_pos hc]
      have hs := (h.snoc hc.1 hc.2).1
      by_cases h2 : L.wh i.toNat = 2
      · rw [if_pos h2]
        have := ih _ (L.loc i.toNat) hs
        exact ⟨this.1, fun _ => this.2 (by simp)⟩
      · rw [if_neg h2]; exact ⟨hs, fun _ => by simp⟩
    · rw [if_neg hc]; exact ⟨h, fun h => h⟩

theorem way_win (L : Ld) (i : Int) : WIn (wayL L i) := (wayFrom_win L 10 [] i ⟨List.nodup_nil, fun s h => by simp at h⟩).1

theorem way_pos (L : Ld) {i : Int} (h : amg i 9 = true) : wayL L i ≠ [] := by
  unfold wayL
  simp only [wayFrom]
  rw [if_pos ⟨h, by simp⟩]
  have hs := (WIn.snoc (S := []) ⟨List.nodup_nil, fun s h => by simp at h⟩ h (by simp)).1
  by_cases h2 : L.wh i.toNat = 2
  · rw [if_pos h2]; exact (wayFrom_win L 9 _ _ hs).2 (by simp)
  · rw [if_neg h2]; simp

theorem wayL_nil (L : Ld) {i : Int} (h : amg i 9 = false) : wayL L i = [] := by
  unfold wayL
  simp only [wayFrom]
  rw [if_neg (by simp [h])]

theorem way_len (L : Ld) (i : Int) : (wayL L i).length ≤ 9 := pigeon 9 _ (way_win L i).nodup (way_win L i).inn

/-- The last thing of a way. -/
def lastW (L : Ld) (i : Int) : Nat := ((wayL L i).getD ((wayL L i).length - 1) 0).toNat

theorem getD_mem {q : List Int} {k : Nat} (h : k < q.length) : q.getD k 0 ∈ q := by simp [h]

theorem last_lt (L : Ld) {i : Int} (h : wayL L i ≠ []) : lastW L i < 9 ∧ (wayL L i).getD ((wayL L i).length - 1) 0 = (lastW L i : Int) := by
  have hl : 0 < (wayL L i).length := List.length_pos_iff.2 h
  have := (way_win L i).inn _ (getD_mem (q := wayL L i) (k := (wayL L i).length - 1) (by omega))
  unfold lastW
  omega

theorem Nums.some {w : World} {v : Value} {q : List Int} (h : Nums w v q) (h0 : 0 < q.length) : ∃ b off cap, v = .slice (some ⟨b, off, none⟩) q.length cap ∧ q.length ≤ cap ∧ cap ≤ maxLen ∧ ∀ i, i < q.length → w.cell? ⟨b, off + i, none⟩ = some (.int .i64 (q.getD i 0)) := by
  obtain ⟨av, cap, rfl, hl, hm, hc⟩ := h
  obtain ⟨b, off, rfl, hcc⟩ := hc h0
  exact ⟨b, off, cap, rfl, hl, hm, hcc⟩

end Go.Proofs.YtaifjndkgfffpaaGreatDoor
/-
  Room: its contract.
-/
namespace Go.Proofs.YtaifjndkgfffpaaGreatDoor
open Go.RowKit
set_option linter.unusedVariables false

/-- Whether all boxes about a thing are open. -/
def openW (L : Ld) (i : Int) : Bool := ((wayL L i).drop 1).all fun b => L.on b.toNat

/-- The room that a thing is in at last, and whether nothing shut is about it. -/
def roomL (L : Ld) (i : Int) : Int × Bool :=
  if wayL L i = [] then (-1, false)
  else if L.wh (lastW L i) = 0 then (L.loc (lastW L i), openW L i)
  else if L.wh (lastW L i) = 1 ∧ amg (L.loc (lastW L i)) 6 = true then (L.room (L.loc (lastW L i)).toNat, openW L i)
  else (-1, false)

set_option maxRecDepth 100000 in
set_option maxHeartbeats 1000000 in
theorem room_none (L : Ld) (i : Int) (w : World) (hi : amg i 9 = false) :
    Calls Tryz.prog 84 #[.agg L.cells, .int .i64 i] w fun e w' => e = .returned (.tuple #[.int .i64 (roomL L i).1, .bool (roomL L i).2]) ∧ Below w.heap.size w w' := by
  have hq : wayL L i = [] := wayL_nil L hi
  have hr : roomL L i = (-1, false) := by unfold roomL; rw [if_pos hq]
  rw [hr]
  have HQ := hide hq
  clear hi hq hr
  go_enter Tryz.func84, Tryz.ntmps84
  go_wp2_with (refine wl_land (.tmp 2) rfl rfl _ L rfl (cod_new w L) ?_)
  refine (way_any L i _).mono ?_
  rintro e w1 ⟨v, rfl, hn, hb⟩
  have hb' : Below w.heap.size w w1 := ((Below.refl _ _).alloc (Nat.le_refl _) _).trans (hb.mono (by simp))
  rw [HQ.out] at hn
  obtain ⟨av, cap, rfl, _, _, _⟩ := hn
  simp only [List.length_nil]
  clear hb
  go_wp2
  go_ret2
  exact ⟨rfl, hb'⟩

theorem all_step {q : List Int} {m j : Nat} (hw : WIn q) (hq : q.length = m + 1) (hj : j < m) :
    ∃ x : Nat, x < 9 ∧ (q.getD (j + 1) 0 = (x : Int) ∧ ∀ f : Int → Bool, ((q.drop 1).take (j + 1)).all f = (((q.drop 1).take j).all f && f (x : Int))) := by
  have h := hw.inn _ (getD_mem (q := q) (k := j + 1) (by omega))
  refine ⟨(q.getD (j + 1) 0).toNat, by omega, by omega, fun f => ?_⟩
  have e : ((q.getD (j + 1) 0).toNat : Int) = q.getD (j + 1) 0 := by omega
  rw [e]
  rw [List.take_succ_eq_append_getElem (by simp; omega), List.all_append]
  have e2 : q.getD (j + 1) 0 = q[j + 1] := by simp [hq, hj]
  rw [e2]
  simp

set_option maxRecDepth 100000 in
set_option maxHeartbeats 1000000 in
theorem room_some (L : Ld) (i : Int) (w : World) (hi : amg i 9 = true) :
    Calls Tryz.prog 84 #[.agg L.cells, .int .i64 i] w fun e w' => e = .returned (.tuple #[.int .i64 (roomL L i).1, .bool (roomL L i).2]) ∧ Below w.heap.size w w' := by
  have hne := way_pos L hi
  have hll := last_lt L hne
  have hlen := way_len L i
  have hpos : 0 < (wayL L i).length := List.length_pos_iff.2 hne
  have hwin := way_win L i
  have HR := hide (show roomL L i = (if L.wh (lastW L i) = 0 then (L.loc (lastW L i), openW L i)
    else if L.wh (lastW L i) = 1 ∧ amg (L.loc (lastW L i)) 6 = true then (L.room (L.loc (lastW L i)).toNat, openW L i) else (-1, false)) by unfold roomL; rw [if_neg hne])
  have HL := hide hll
  have HP := hide hpos
  have HN := hide hlen
  have HW := hide hwin
  have HO := hide (show openW L i = ((wayL L i).drop 1).all (fun b => L.on b.toNat) from rfl)
  clear hi hne hll hlen hpos hwin
  generalize hrr : roomL L i = R at *
  clear hrr
  generalize hoo : openW L i = O at *
  clear hoo
  go_enter Tryz.func84, Tryz.ntmps84
  go_wp2_with (refine wl_land (.tmp 2) rfl rfl _ L rfl (cod_new w L) ?_)
  refine (way_any L i _).mono ?_
  rintro e w1 ⟨v, rfl, hn, hb⟩
  have hb' : Below w.heap.size w w1 := ((Below.refl _ _).alloc (Nat.le_refl _) _).trans (hb.mono (by simp))
  have hc : Cod w1 w.heap.size L := (cod_new w L).behind hb (Nat.le_refl _)
  obtain ⟨b, off, cap, rfl, hcap, hmax, hcell⟩ := hn.some HP.out
  generalize lastW L i = k at *
  generalize wayL L i = q at *
  have h0 := HP.out
  have h9 := HN.out
  have HQ := hide hcell
  generalize hqn : q.length = n at *
  have HQN := hide hqn
  obtain ⟨m, rfl⟩ : ∃ m, n = m + 1 := ⟨n - 1, by omega⟩
  clear hcell hn hb HP HN hqn
  have HB := hide hb'
  have HC := hide hc
  clear hb' hc
  unfold maxLen at hmax
  have h16 : ((m : Int) + 1 == 0) = false := by simp; omega
  have hk := HL.out.1
  have cm : w1.cell? ⟨b, off + m, none⟩ = some (.int .i64 (k : Int)) := by
    have := HQ.out m (by omega)
    have e := HL.out.2
    rw [Nat.add_sub_cancel] at e
    rw [e] at this; exact this
  go_wp2
  all_goals
    go_loop [7, 20] (fun o c => ∃ j : Nat, j ≤ m ∧ c = .int .i64 j ∧ o = .bool (((q.drop 1).take j).all fun b => L.on b.toNat)) (fun _ c => m - (intOf c).toNat)
    case atStart => exact ⟨0, Nat.zero_le _, rfl, rfl⟩
    case round =>
      obtain ⟨j, hj, rfl, rfl⟩ := hrel
      by_cases hlt : j < m
      · first
        | (exfalso; omega)
        | (obtain ⟨x, hx, hxe⟩ := all_step HW.out HQN.out hlt
           have HX := hide hxe
           clear hxe
           have cj : w1.cell? ⟨b, off + 1 + j, none⟩ = some (.int .i64 (x : Int)) := by
             have := HQ.out (j + 1) (by omega)
             rw [HX.out.1] at this
             rw [show off + 1 + j = off + (j + 1) by omega]; exact this
           have c4 : w1.cell? ⟨w.heap.size, 84 + x * 5 + 4, none⟩ = some (.bool (L.on x)) := HC.out.thing x 4 hx (by omega)
           have HS := hide (HX.out.2 (fun b => L.on b.toNat))
           generalize ((q.drop 1).take j).all (fun b => L.on b.toNat) = acc at *
           cases acc
           · go_wp2
             go_round
             case rel => exact ⟨j + 1, by omega, by go_num, by rw [HS.out]; rfl⟩
             case measure => simp [intOf]; omega
           · go_wp2
             go_round
             case rel => exact ⟨j + 1, by omega, by go_num, by rw [HS.out]; rfl⟩
             case measure => simp [intOf]; omega)
      · have hjm : j = m := by omega
        subst hjm
        have HA := hide (show (((q.drop 1).take j).all fun b => L.on b.toNat) = O by
          rw [HO.out, List.take_of_length_le (by have := HQN.out; simp; omega)])
        rw [HA.out]
        by_cases hw0 : L.wh k = 0
        · have hb0 : (L.wh k == 0) = true := by simp [hw0]
          have H0 := hide hw0
          clear hw0
          go_wp2_with (first | (refine wl_thing (.tmp 40) rfl rfl _ k L rfl HC.out hk ?_) | (refine wl_new 28 (.tmp 10) (.tmp 41) rfl rfl _ _ rfl rfl rfl Tryz.sizeThing rfl rfl ?_))
          go_ret2
          refine ⟨?_, (HB.out.alloc HB.out.size _)⟩
          rw [HR.out, if_pos H0.out]
          rfl
        · have hb0 : (L.wh k == 0) = false := by simp [hw0]
          have H0 := hide hw0
          clear hw0
          by_cases hw1 : L.wh k = 1
          · have hb1 : (L.wh k == 1) = true := by simp [hw1]
            have H1 := hide hw1
            clear hw1
            go_wp2_with (first | (refine wl_thing (.tmp 40) rfl rfl _ k L rfl HC.out hk ?_) | (refine wl_new 28 (.tmp 10) (.tmp 41) rfl rfl _ _ rfl rfl rfl Tryz.sizeThing rfl rfl ?_))
            refine (among_any (L.loc k) 6 _).mono ?_
            rintro e w2 ⟨rfl, hw2⟩
            rw [hw2]
            clear hw2 w2
            cases ha : amg (L.loc k) 6 with
            | false =>
              have HA6 := hide ha
              clear ha
              go_wp2
              go_ret2
              refine ⟨?_, (HB.out.alloc HB.out.size _)⟩
              rw [HR.out, if_neg H0.out, if_neg (by rw [HA6.out]; simp)]
              rfl
            | true =>
              have HA6 := hide ha
              obtain ⟨g0, g6⟩ := amg_pos ha
              clear ha
              obtain ⟨x, hx⟩ := Int.eq_ofNat_of_zero_le g0
              rw [hx] at g6
              have cr : (w1.alloc (.cells #[.string (L.tname k), .int .i64 (L.kind k), .int .i64 (L.wh k), .int .i64 (x : Int), .bool (L.on k)] 28)).cell? ⟨w.heap.size, 129 + x * 6 + 3, none⟩ = some (.int .i64 (L.room x)) :=
                (HC.out.alloc _).being x 3 (by omega) (by omega)
              have HX := hide hx
              rw [hx]
              clear hx g0
              go_wp2
              go_ret2
              refine ⟨?_, (HB.out.alloc HB.out.size _)⟩
              rw [HR.out, if_neg H0.out, if_pos ⟨H1.out, HA6.out⟩, HX.out]
              rfl
          · have hb1 : (L.wh k == 1) = false := by simp [hw1]
            have H1 := hide hw1
            clear hw1
            go_wp2_with (first | (refine wl_thing (.tmp 40) rfl rfl _ k L rfl HC.out hk ?_) | (refine wl_new 28 (.tmp 10) (.tmp 41) rfl rfl _ _ rfl rfl rfl Tryz.sizeThing rfl rfl ?_))
            go_ret2
            refine ⟨?_, (HB.out.alloc HB.out.size _)⟩
            rw [HR.out, if_neg H0.out, if_neg (fun h => H1.out h.1)]
            rfl

theorem room_any (L : Ld) (i : Int) (w : World) :
    Calls Tryz.prog 84 #[.agg L.cells, .int .i64 i] w fun e w' => e = .returned (.tuple #[.int .i64 (roomL L i).1, .bool (roomL L i).2]) ∧ Below w.heap.size w w' := by
  cases h : amg i 9 with
  | false => exact room_none L i w h
  | true => exact room_some L i w h
end Go.Proofs.YtaifjndkgfffpaaGreatDoor
