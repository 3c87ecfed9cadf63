/-
  What comes of what beings do: a land with one thing set; texts; what is told: plain mathematics.
-/
import Derived.Test.YtaifjndkgfffpaaDoorRuMem
import Derived.Test.YtaifjndkgfffpaaDoorMgAL
namespace Go.Proofs.YtaifjndkgfffpaaDoor
open Go.RowKit
set_option linter.unusedVariables false

namespace Ld
variable (L : Ld)
def setRoom (b : Nat) (x : Int) : Ld := { L with room := fun j => if j = b then x else L.room j }
def setHealth (b : Nat) (x : Int) : Ld := { L with health := fun j => if j = b then x else L.health j }
def setFoe (b : Nat) (x : Int) : Ld := { L with foe := fun j => if j = b then x else L.foe j }
def setWh (i : Nat) (x : Int) : Ld := { L with wh := fun j => if j = i then x else L.wh j }
def setLoc (i : Nat) (x : Int) : Ld := { L with loc := fun j => if j = i then x else L.loc j }
def setOn (i : Nat) (x : Bool) : Ld := { L with on := fun j => if j = i then x else L.on j }
def setShut (r d : Nat) (x : Bool) : Ld := { L with shut := fun r' d' => if r' = r ∧ d' = d then x else L.shut r' d' }
def setName (b : Nat) (x : ByteArray) : Ld := { L with bname := fun j => if j = b then x else L.bname j }
def setHere (b : Nat) (x : Bool) : Ld := { L with here := fun j => if j = b then x else L.here j }
def setKeen (b : Nat) (x : Bool) : Ld := { L with keen := fun j => if j = b then x else L.keen j }
/-- A whole being is set. -/
def setBeing (b : Nat) (nm : ByteArray) (here keen : Bool) (room health foe : Int) : Ld :=
  { L with bname := fun j => if j = b then nm else L.bname j, here := fun j => if j = b then here else L.here j, keen := fun j => if j = b then keen else L.keen j,
           room := fun j => if j = b then room else L.room j, health := fun j => if j = b then health else L.health j, foe := fun j => if j = b then foe else L.foe j }
theorem setBeing_eq (b : Nat) (nm : ByteArray) (here keen : Bool) (room health foe : Int) : L.setBeing b nm here keen room health foe = (((((L.setName b nm).setHere b here).setKeen b keen).setRoom b room).setHealth b health).setFoe b foe := rfl
variable {L}
theorem upd_being {L' : Ld} {k j : Nat} {x : Value} (hk : k < 6) (hj : j < 6) (hr : ∀ r c, L'.roomCell r c = L.roomCell r c) (ht : ∀ i c, L'.thingCell i c = L.thingCell i c)
    (hb : ∀ i c, c < 6 → L'.beingCell i c = if i = k ∧ c = j then x else L.beingCell i c) : ∀ m, m < 165 → L'.cellAt m = if m = 129 + k * 6 + j then x else L.cellAt m := by
  intro m hm
  unfold cellAt
  by_cases h1 : m < 84
  · rw [if_pos h1, if_pos h1, if_neg (by omega), hr]
  · rw [if_neg h1, if_neg h1]
    by_cases h2 : m < 129
    · rw [if_pos h2, if_pos h2, if_neg (by omega), ht]
    · rw [if_neg h2, if_neg h2, hb _ _ (by omega)]
      by_cases e : m = 129 + k * 6 + j
      · rw [if_pos e, if_pos ⟨by omega, by omega⟩]
      · rw [if_neg e, if_neg (by omega)]
theorem upd_thing {L' : Ld} {k j : Nat} {x : Value} (hk : k < 9) (hj : j < 5) (hr : ∀ r c, L'.roomCell r c = L.roomCell r c) (hb : ∀ i c, L'.beingCell i c = L.beingCell i c)
    (ht : ∀ i c, c < 5 → L'.thingCell i c = if i = k ∧ c = j then x else L.thingCell i c) : ∀ m, m < 165 → L'.cellAt m = if m = 84 + k * 5 + j then x else L.cellAt m := by
  intro m hm
  unfold cellAt
  by_cases h1 : m < 84
  · rw [if_pos h1, if_pos h1, if_neg (by omega), hr]
  · rw [if_neg h1, if_neg h1]
    by_cases h2 : m < 129
    · rw [if_pos h2, if_pos h2, ht _ _ (by omega)]
      by_cases e : m = 84 + k * 5 + j
      · rw [if_pos e, if_pos ⟨by omega, by omega⟩]
      · rw [if_neg e, if_neg (by omega)]
    · rw [if_neg h2, if_neg h2, if_neg (by omega), hb]
theorem upd_room {L' : Ld} {k j : Nat} {x : Value} (hk : k < 6) (hj : j < 14) (ht : ∀ i c, L'.thingCell i c = L.thingCell i c) (hb : ∀ i c, L'.beingCell i c = L.beingCell i c)
    (hr : ∀ i c, c < 14 → L'.roomCell i c = if i = k ∧ c = j then x else L.roomCell i c) : ∀ m, m < 165 → L'.cellAt m = if m = k * 14 + j then x else L.cellAt m := by
  intro m hm
  unfold cellAt
  by_cases h1 : m < 84
  · rw [if_pos h1, if_pos h1, hr _ _ (by omega)]
    by_cases e : m = k * 14 + j
    · rw [if_pos e, if_pos ⟨by omega, by omega⟩]
    · rw [if_neg e, if_neg (by omega)]
  · rw [if_neg h1, if_neg h1]
    by_cases h2 : m < 129
    · rw [if_pos h2, if_pos h2, if_neg (by omega), ht]
    · rw [if_neg h2, if_neg h2, if_neg (by omega), hb]

section
variable (L)
theorem room_same {L' : Ld} (h1 : L'.rname = L.rname) (h2 : L'.dark = L.dark) (h3 : L'.exit = L.exit) (h4 : L'.shut = L.shut) : ∀ r c, L'.roomCell r c = L.roomCell r c := by
  intro r c
  match c with
  | 0 => simp [roomCell, h1]
  | 1 => simp [roomCell, h2]
  | c + 2 => simp [roomCell, h3, h4]
theorem thing_same {L' : Ld} (h1 : L'.tname = L.tname) (h2 : L'.kind = L.kind) (h3 : L'.wh = L.wh) (h4 : L'.loc = L.loc) (h5 : L'.on = L.on) : ∀ r c, L'.thingCell r c = L.thingCell r c := by
  intro r c
  match c with
  | 0 => simp [thingCell, h1]
  | 1 => simp [thingCell, h2]
  | 2 => simp [thingCell, h3]
  | 3 => simp [thingCell, h4]
  | c + 4 => simp [thingCell, h5]
theorem being_same {L' : Ld} (h1 : L'.bname = L.bname) (h2 : L'.here = L.here) (h3 : L'.keen = L.keen) (h4 : L'.room = L.room) (h5 : L'.health = L.health) (h6 : L'.foe = L.foe) : ∀ r c, L'.beingCell r c = L.beingCell r c := by
  intro r c
  match c with
  | 0 => simp [beingCell, h1]
  | 1 => simp [beingCell, h2]
  | 2 => simp [beingCell, h3]
  | 3 => simp [beingCell, h4]
  | 4 => simp [beingCell, h5]
  | c + 5 => simp [beingCell, h6]
theorem up_name (b : Nat) (hb : b < 6) (x : ByteArray) : ∀ m, m < 165 → (L.setName b x).cellAt m = if m = 129 + b * 6 then .string x else L.cellAt m :=
  upd_being hb (j := 0) (by omega) (room_same L rfl rfl rfl rfl) (thing_same L rfl rfl rfl rfl rfl) fun i c hc => by
    match c, hc with
    | 0, _ => by_cases e : i = b <;> simp [beingCell, setName, e]
    | 1, _ | 2, _ | 3, _ | 4, _ | 5, _ => simp [beingCell, setName]
theorem up_here (b : Nat) (hb : b < 6) (x : Bool) : ∀ m, m < 165 → (L.setHere b x).cellAt m = if m = 129 + b * 6 + 1 then .bool x else L.cellAt m :=
  upd_being hb (by omega) (room_same L rfl rfl rfl rfl) (thing_same L rfl rfl rfl rfl rfl) fun i c hc => by
    match c, hc with
    | 1, _ => by_cases e : i = b <;> simp [beingCell, setHere, e]
    | 0, _ | 2, _ | 3, _ | 4, _ | 5, _ => simp [beingCell, setHere]
theorem up_keen (b : Nat) (hb : b < 6) (x : Bool) : ∀ m, m < 165 → (L.setKeen b x).cellAt m = if m = 129 + b * 6 + 2 then .bool x else L.cellAt m :=
  upd_being hb (by omega) (room_same L rfl rfl rfl rfl) (thing_same L rfl rfl rfl rfl rfl) fun i c hc => by
    match c, hc with
    | 2, _ => by_cases e : i = b <;> simp [beingCell, setKeen, e]
    | 0, _ | 1, _ | 3, _ | 4, _ | 5, _ => simp [beingCell, setKeen]
theorem up_room (b : Nat) (hb : b < 6) (x : Int) : ∀ m, m < 165 → (L.setRoom b x).cellAt m = if m = 129 + b * 6 + 3 then .int .i64 x else L.cellAt m :=
  upd_being hb (by omega) (room_same L rfl rfl rfl rfl) (thing_same L rfl rfl rfl rfl rfl) fun i c hc => by
    match c, hc with
    | 3, _ => by_cases e : i = b <;> simp [beingCell, setRoom, e]
    | 0, _ | 1, _ | 2, _ | 4, _ | 5, _ => simp [beingCell, setRoom]
theorem up_health (b : Nat) (hb : b < 6) (x : Int) : ∀ m, m < 165 → (L.setHealth b x).cellAt m = if m = 129 + b * 6 + 4 then .int .i64 x else L.cellAt m :=
  upd_being hb (by omega) (room_same L rfl rfl rfl rfl) (thing_same L rfl rfl rfl rfl rfl) fun i c hc => by
    match c, hc with
    | 4, _ => by_cases e : i = b <;> simp [beingCell, setHealth, e]
    | 0, _ | 1, _ | 2, _ | 3, _ | 5, _ => simp [beingCell, setHealth]
theorem up_foe (b : Nat) (hb : b < 6) (x : Int) : ∀ m, m < 165 → (L.setFoe b x).cellAt m = if m = 129 + b * 6 + 5 then .int .i64 x else L.cellAt m :=
  upd_being hb (by omega) (room_same L rfl rfl rfl rfl) (thing_same L rfl rfl rfl rfl rfl) fun i c hc => by
    match c, hc with
    | 5, _ => by_cases e : i = b <;> simp [beingCell, setFoe, e]
    | 0, _ | 1, _ | 2, _ | 3, _ | 4, _ => simp [beingCell, setFoe]
theorem up_wh (i : Nat) (hi : i < 9) (x : Int) : ∀ m, m < 165 → (L.setWh i x).cellAt m = if m = 84 + i * 5 + 2 then .int .i64 x else L.cellAt m :=
  upd_thing hi (by omega) (room_same L rfl rfl rfl rfl) (being_same L rfl rfl rfl rfl rfl rfl) fun j c hc => by
    match c, hc with
    | 2, _ => by_cases e : j = i <;> simp [thingCell, setWh, e]
    | 0, _ | 1, _ | 3, _ | 4, _ => simp [thingCell, setWh]
theorem up_loc (i : Nat) (hi : i < 9) (x : Int) : ∀ m, m < 165 → (L.setLoc i x).cellAt m = if m = 84 + i * 5 + 3 then .int .i64 x else L.cellAt m :=
  upd_thing hi (by omega) (room_same L rfl rfl rfl rfl) (being_same L rfl rfl rfl rfl rfl rfl) fun j c hc => by
    match c, hc with
    | 3, _ => by_cases e : j = i <;> simp [thingCell, setLoc, e]
    | 0, _ | 1, _ | 2, _ | 4, _ => simp [thingCell, setLoc]
theorem up_on (i : Nat) (hi : i < 9) (x : Bool) : ∀ m, m < 165 → (L.setOn i x).cellAt m = if m = 84 + i * 5 + 4 then .bool x else L.cellAt m :=
  upd_thing hi (by omega) (room_same L rfl rfl rfl rfl) (being_same L rfl rfl rfl rfl rfl rfl) fun j c hc => by
    match c, hc with
    | 4, _ => by_cases e : j = i <;> simp [thingCell, setOn, e]
    | 0, _ | 1, _ | 2, _ | 3, _ => simp [thingCell, setOn]
theorem up_shut (r d : Nat) (hr : r < 6) (hd : d < 6) (x : Bool) : ∀ m, m < 165 → (L.setShut r d x).cellAt m = if m = r * 14 + (8 + d) then .bool x else L.cellAt m :=
  upd_room hr (by omega) (thing_same L rfl rfl rfl rfl rfl) (being_same L rfl rfl rfl rfl rfl rfl) fun j c hc => by
    match c, hc with
    | 0, _ | 1, _ => rw [if_neg (by omega)]; rfl
    | c + 2, _ =>
      simp only [roomCell, setShut]
      by_cases h6 : c < 6
      · rw [if_pos h6, if_pos h6, if_neg (by omega)]
      · rw [if_neg h6, if_neg h6]
        by_cases e : j = r ∧ c - 6 = d
        · rw [if_pos e, if_pos ⟨e.1, by omega⟩]
        · rw [if_neg e, if_neg (by omega)]
end
end Ld

/-- Whoever and whatever there is is at a place that there is; no name is too long. -/
structure Fine (L : Ld) : Prop where
  room : ∀ b, b < 6 → ∃ r : Nat, r < 6 ∧ L.room b = (r : Int)
  exit : ∀ r d, r < 6 → d < 6 → L.exit r d = 0 ∨ ∃ t : Nat, t < 6 ∧ L.exit r d = (t : Int) + 1
  foe : ∀ b, b < 6 → L.foe b = 0 ∨ ∃ c : Nat, c < 6 ∧ L.foe b = (c : Int) + 1
  health : ∀ b, b < 6 → 0 ≤ L.health b ∧ L.health b ≤ 10
  rname : ∀ r, r < 6 → (L.rname r).size ≤ 1048576
  tname : ∀ i, i < 9 → (L.tname i).size ≤ 1048576
  bname : ∀ b, b < 6 → (L.bname b).size ≤ 1048576

/-- An event of a being, with nobody else. -/
def evN (L : Ld) (kind : Int) (b : Nat) : Ev :=
  { kind := kind, room := L.room b, actor := (b : Int), other := -1, dir := 0, num := 0, who := L.bname b, whom := ⟨#[]⟩, thing := ⟨#[]⟩, text := ⟨#[]⟩, by' := fun _ => 0 }
def evW (L : Ld) (kind : Int) (b c : Nat) : Ev := { evN L kind b with other := (c : Int), whom := L.bname c }
/-- A being is told a text. -/
def tellE (L : Ld) (b : Nat) (s : ByteArray) : Ev := allE L { evN L 16 b with text := s }
def sightL (L : Ld) (b : Nat) : List Int := if brightL L (L.room b) = true then hasK L 0 (L.room b) 9 else []
def handL (L : Ld) (b : Nat) : List Int := hasK L 1 (b : Int) 9
def reachL (L : Ld) (b : Nat) : List Int := handL L b ++ sightL L b
def starT (s : Bool) : ByteArray := if s then ⟨#[42]⟩ else ⟨#[]⟩
/-- The directions in which a room has exits, the first k of them. -/
def waysK (L : Ld) (r : Nat) : Nat → ByteArray
  | 0 => ⟨#[]⟩
  | k + 1 => if L.exit r k = 0 then waysK L r k else waysK L r k ++ (⟨#[32]⟩ ++ bs (calledI (k : Int)) ++ starT (L.shut r k))
/-- Things' names, one behind another. -/
def namesK (L : Ld) : List Int → ByteArray
  | [] => ⟨#[]⟩
  | i :: q => (⟨#[32]⟩ ++ L.tname i.toNat ++ starT (L.on i.toNat)) ++ namesK L q
def nothingT : ByteArray := ⟨#[32, 110, 111, 116, 104, 105, 110, 103]⟩
def dotT : ByteArray := ⟨#[46]⟩
def listedT (L : Ld) (q : List Int) : ByteArray := (if q = [] then nothingT else namesK L q) ++ dotT
def theS : ByteArray := ⟨#[84, 104, 101, 32]⟩
def waysS : ByteArray := ⟨#[87, 97, 121, 115, 58]⟩
def hereS : ByteArray := ⟨#[72, 101, 114, 101, 32, 105, 115]⟩
def isHereS : ByteArray := ⟨#[32, 105, 115, 32, 104, 101, 114, 101, 46]⟩
def haveS : ByteArray := ⟨#[89, 111, 117, 32, 104, 97, 118, 101]⟩
def darkS : ByteArray := ⟨#[73, 116, 32, 105, 115, 32, 100, 97, 114, 107, 46]⟩
def noWayS : ByteArray := ⟨#[89, 111, 117, 32, 99, 97, 110, 110, 111, 116, 32, 103, 111, 32, 116, 104, 101, 114, 101, 46]⟩
def shutS : ByteArray := ⟨#[73, 116, 32, 105, 115, 32, 115, 104, 117, 116, 46]⟩
def noThingS : ByteArray := ⟨#[84, 104, 101, 114, 101, 32, 105, 115, 32, 110, 111, 32, 115, 117, 99, 104, 32, 116, 104, 105, 110, 103, 46]⟩
/-- Those others whom a being sees. -/
def seesO (L : Ld) (b c : Nat) : Bool := decide (c ≠ b) && seesL L (b : Int) (c : Int)
def othersK (L : Ld) (b k : Nat) : List Ev := ((List.range k).filter (seesO L b)).map fun c => tellE L b (L.bname c ++ isHereS)
/-- What is told to whoever looks. -/
def lookE (L : Ld) (b : Nat) : List Ev :=
  if brightL L (L.room b) = true then
    [tellE L b (theS ++ L.rname (L.room b).toNat ++ dotT), tellE L b (waysS ++ waysK L (L.room b).toNat 6)] ++
      (if sightL L b = [] then [] else [tellE L b (hereS ++ listedT L (sightL L b))]) ++ othersK L b 6
  else [tellE L b darkS]

theorem others_yes {L : Ld} {b k : Nat} (h : seesO L b k = true) : othersK L b (k + 1) = othersK L b k ++ [tellE L b (L.bname k ++ isHereS)] := by
  simp [othersK, List.range_succ, List.filter_append, h]
theorem others_no {L : Ld} {b k : Nat} (h : seesO L b k = false) : othersK L b (k + 1) = othersK L b k := by
  simp [othersK, List.range_succ, List.filter_append, h]
theorem others_len (L : Ld) (b k : Nat) : (othersK L b k).length ≤ k := by
  unfold othersK
  rw [List.length_map]
  exact Nat.le_trans (List.length_filter_le ..) (by simp)
theorem look_len (L : Ld) (b : Nat) : (lookE L b).length ≤ 9 := by
  unfold lookE
  have := others_len L b 6
  split
  · simp only [List.length_append, List.length_cons, List.length_nil]
    split <;> simp <;> omega
  · simp
theorem star_size (s : Bool) : (starT s).size ≤ 1 := by cases s <;> decide
theorem ba_nil_r (x : ByteArray) : x ++ (⟨#[]⟩ : ByteArray) = x := by apply ByteArray.ext; simp
theorem ba_nil_l (x : ByteArray) : (⟨#[]⟩ : ByteArray) ++ x = x := by apply ByteArray.ext; simp
theorem names_snoc (L : Ld) (q : List Int) (i : Int) : namesK L (q ++ [i]) = namesK L q ++ (⟨#[32]⟩ ++ L.tname i.toNat ++ starT (L.on i.toNat)) := by
  induction q with
  | nil => simp only [List.nil_append, namesK, ba_nil_r, ba_nil_l]
  | cons a q ih => simp only [List.cons_append, namesK, ih, ByteArray.append_assoc]
theorem has_lt {L : Ld} {wh loc : Int} {x : Int} (h : x ∈ hasK L wh loc 9) : ∃ i : Nat, x = (i : Int) ∧ i < 9 := by
  obtain ⟨i, e, hi, _⟩ := hasK_mem h; exact ⟨i, e, hi⟩
theorem sight_lt {L : Ld} {b : Nat} {x : Int} (h : x ∈ sightL L b) : ∃ i : Nat, x = (i : Int) ∧ i < 9 := by
  unfold sightL at h
  split at h
  · exact has_lt h
  · simp at h
theorem hand_lt {L : Ld} {b : Nat} {x : Int} (h : x ∈ handL L b) : ∃ i : Nat, x = (i : Int) ∧ i < 9 := has_lt h
theorem sight_len (L : Ld) (b : Nat) : (sightL L b).length ≤ 9 := by
  unfold sightL
  split
  · exact hasK_len ..
  · simp
theorem hand_len (L : Ld) (b : Nat) : (handL L b).length ≤ 9 := hasK_len ..
end Go.Proofs.YtaifjndkgfffpaaDoor
