/-
  What people type: plain mathematics of texts cut at a byte, words, verbs, nouns, orders.
-/
import Derived.Lib.Strings
import Derived.Lib.Bytealg
namespace Go.Proofs.YtaifjndkgfffpaaDoor
set_option linter.unusedVariables false

/-- The text of these bytes. -/
def bs (l : List UInt8) : ByteArray := ⟨l.toArray⟩
theorem bs_data (l : List UInt8) : (bs l).data.toList = l := by simp [bs]
theorem bs_of (s : ByteArray) : bs s.data.toList = s := by cases s; simp [bs]
theorem bs_size (l : List UInt8) : (bs l).size = l.length := by simp [bs, ByteArray.size]
theorem bs_inj {a b : List UInt8} (h : bs a = bs b) : a = b := by rw [← bs_data a, h, bs_data]
theorem size_len (s : ByteArray) : s.data.toList.length = s.size := by cases s; simp [ByteArray.size]

/-- What stands ahead of the first c, what stands behind it, whether there is one. -/
def cutL (c : UInt8) : List UInt8 → List UInt8 × List UInt8 × Bool
  | [] => ([], [], false)
  | x :: r => if x = c then ([], r, true) else (x :: (cutL c r).1, (cutL c r).2.1, (cutL c r).2.2)

theorem cut_hit (c : UInt8) : ∀ (l : List UInt8) (i : Nat), Lib.indexByte l c = (i : Int) → cutL c l = (l.take i, l.drop (i + 1), true)
  | [], i, h => by simp [Lib.indexByte] at h
  | x :: r, i, h => by
    unfold Lib.indexByte at h
    by_cases hx : x = c
    · subst hx
      simp at h
      have : i = 0 := by omega
      subst this
      simp [cutL]
    · rw [if_neg (by simpa using hx)] at h
      by_cases h1 : Lib.indexByte r c = -1
      · rw [if_pos (by simp [h1])] at h; omega
      · rw [if_neg (by simpa using h1)] at h
        have hge := Lib.indexByte_ge r c
        obtain ⟨j, hj⟩ : ∃ j : Nat, i = j + 1 := ⟨i - 1, by omega⟩
        subst hj
        have := cut_hit c r j (by omega)
        simp [cutL, hx, this]

theorem cut_miss (c : UInt8) : ∀ (l : List UInt8), Lib.indexByte l c = -1 → cutL c l = (l, [], false)
  | [], _ => rfl
  | x :: r, h => by
    unfold Lib.indexByte at h
    by_cases hx : x = c
    · subst hx; simp at h
    · rw [if_neg (by simpa using hx)] at h
      have hge := Lib.indexByte_ge r c
      have h1 : Lib.indexByte r c = -1 := by
        by_cases h1 : Lib.indexByte r c = -1
        · exact h1
        · rw [if_neg (by simpa using h1)] at h; omega
      have := cut_miss c r h1
      simp [cutL, hx, this]

theorem cut_bound (c : UInt8) : ∀ (l : List UInt8) (i : Nat), Lib.indexByte l c = (i : Int) → i < l.length
  | [], i, h => by simp [Lib.indexByte] at h
  | x :: r, i, h => by
    unfold Lib.indexByte at h
    by_cases hx : x = c
    · subst hx; simp at h; simp; omega
    · rw [if_neg (by simpa using hx)] at h
      by_cases h1 : Lib.indexByte r c = -1
      · rw [if_pos (by simp [h1])] at h; omega
      · rw [if_neg (by simpa using h1)] at h
        have hge := Lib.indexByte_ge r c
        have := cut_bound c r (i - 1) (by omega)
        simp; omega

theorem cut_len (c : UInt8) : ∀ (l : List UInt8), (cutL c l).1.length + (cutL c l).2.1.length ≤ l.length
  | [] => by simp [cutL]
  | x :: r => by
    have := cut_len c r
    by_cases hx : x = c
    · simp [cutL, hx]
    · simp [cutL, hx]; omega

/-- What is left is shorter, unless nothing was there. -/
theorem cut_less (c : UInt8) : ∀ (l : List UInt8), l ≠ [] → (cutL c l).2.1.length < l.length
  | [], h => absurd rfl h
  | x :: r, _ => by
    have := cut_len c r
    by_cases hx : x = c
    · simp [cutL, hx]
    · simp [cutL, hx]; omega

theorem cut_mem (c : UInt8) : ∀ (l : List UInt8), c ∉ (cutL c l).1
  | [] => by simp [cutL]
  | x :: r => by
    have := cut_mem c r
    by_cases hx : x = c
    · simp [cutL, hx]
    · simp [cutL, hx, this]; exact fun e => hx e.symm

/-- A to Z as a to z. -/
def loB (b : UInt8) : UInt8 := if 65 ≤ b.toNat ∧ b.toNat ≤ 90 then b + 32 else b
def lowerL (l : List UInt8) : List UInt8 := l.map loB

/-- A word, if it is one. -/
def one (acc : List UInt8) : List (List UInt8) := if acc = [] then [] else [lowerL acc]

/-- The words of a text; acc: of the one that stands there, what was gone through. -/
def sp : List UInt8 → List UInt8 → List (List UInt8)
  | acc, [] => one acc
  | acc, x :: r => if x = 32 then one acc ++ sp [] r else sp (acc ++ [x]) r

def splitL (l : List UInt8) : List (List UInt8) := sp [] l

theorem sp_cut : ∀ (l acc : List UInt8), sp acc l = one (acc ++ (cutL 32 l).1) ++ sp [] (cutL 32 l).2.1
  | [], acc => by simp [sp, cutL, one]
  | x :: r, acc => by
    by_cases hx : x = 32
    · simp [sp, cutL, hx]
    · have := sp_cut r (acc ++ [x])
      simp [sp, cutL, hx, this]

theorem split_cut (l : List UInt8) : splitL l = one (cutL 32 l).1 ++ splitL (cutL 32 l).2.1 := by
  have := sp_cut l []
  simpa [splitL] using this

theorem split_nil : splitL [] = [] := by simp [splitL, sp, one]

theorem one_len (l : List UInt8) : (one l).length ≤ l.length := by
  unfold one
  by_cases h : l = []
  · simp [h]
  · have : 0 < l.length := List.length_pos_iff.2 h
    simp [h]; omega

theorem sp_len : ∀ (l acc : List UInt8), (sp acc l).length ≤ acc.length + l.length
  | [], acc => by have := one_len acc; simp [sp]; omega
  | x :: r, acc => by
    by_cases hx : x = 32
    · have := sp_len r []
      have := one_len acc
      simp [sp, hx] at *; omega
    · have := sp_len r (acc ++ [x])
      simp [sp, hx] at *; omega

theorem split_len (l : List UInt8) : (splitL l).length ≤ l.length := by
  have := sp_len l []
  simpa [splitL] using this

theorem sp_ne : ∀ (l acc : List UInt8), ∀ x ∈ sp acc l, x ≠ [] ∧ x.length ≤ acc.length + l.length
  | [], acc, y, h => by
    unfold sp one at h
    by_cases ha : acc = []
    · simp [ha] at h
    · simp [ha] at h; subst h; simp [lowerL, ha]
  | x :: r, acc, y, h => by
    by_cases hx : x = 32
    · simp [sp, hx] at h
      rcases h with h | h
      · unfold one at h
        by_cases ha : acc = []
        · simp [ha] at h
        · simp [ha] at h; subst h; simp [lowerL, ha]
      · have := sp_ne r [] y h
        simp at this ⊢; exact ⟨this.1, by omega⟩
    · simp [sp, hx] at h
      have := sp_ne r (acc ++ [x]) y h
      simp at this ⊢; exact ⟨this.1, by omega⟩

theorem split_ne {l y : List UInt8} (h : y ∈ splitL l) : y ≠ [] := (sp_ne l [] y h).1
theorem split_short {l y : List UInt8} (h : y ∈ splitL l) : y.length ≤ l.length := by
  have := (sp_ne l [] y h).2; simpa using this

/-- The verbs, by number. -/
def verbs : List (List UInt8) := [[110, 111, 114, 116, 104], [101, 97, 115, 116], [117, 112], [115, 111, 117, 116, 104], [119, 101, 115, 116], [100, 111, 119, 110], [108, 111, 111, 107], [103, 101, 116], [100, 114, 111, 112], [112, 117, 116], [103, 105, 118, 101], [115, 97, 121], [111, 112, 101, 110], [99, 108, 111, 115, 101], [108, 105, 103, 104, 116], [100, 111, 117, 115, 101], [119, 101, 97, 114], [100, 111, 102, 102], [104, 105, 116], [105, 110, 118, 101, 110, 116, 111, 114, 121], [113, 117, 105, 116]]

theorem verbs_len : verbs.length = 21 := rfl

/-- The first verb that begins with a word that is not empty. -/
def verbL (w : List UInt8) : Option Nat := if w = [] then none else verbs.findIdx? (fun v => w.isPrefixOf v)

/-- What Verb answers. -/
def verbA (w : List UInt8) : Int × Int := match verbL w with | some v => (v, 0) | none => (0, 3)

theorem verb_lt {w : List UInt8} {v : Nat} (h : verbL w = some v) : v < 21 := by
  unfold verbL at h
  by_cases hw : w = []
  · simp [hw] at h
  · rw [if_neg hw] at h
    obtain ⟨hv, _⟩ := List.findIdx?_eq_some_iff_getElem.1 h
    exact hv

/-- A number of one or two digits, the first one not 0. -/
def numL : List UInt8 → Option Nat
  | [a] => if 49 ≤ a.toNat ∧ a.toNat ≤ 57 then some (a.toNat - 48) else none
  | [a, b] => if 49 ≤ a.toNat ∧ a.toNat ≤ 57 ∧ 48 ≤ b.toNat ∧ b.toNat ≤ 57 then some ((a.toNat - 48) * 10 + (b.toNat - 48)) else none
  | _ => none

theorem num_bound {l : List UInt8} {n : Nat} (h : numL l = some n) : 1 ≤ n ∧ n ≤ 99 := by
  match l, h with
  | [a], h =>
    by_cases hd : 49 ≤ a.toNat ∧ a.toNat ≤ 57
    · simp [numL, hd] at h; omega
    · simp [numL, hd] at h
  | [a, b], h =>
    by_cases hd : 49 ≤ a.toNat ∧ a.toNat ≤ 57 ∧ 48 ≤ b.toNat ∧ b.toNat ≤ 57
    · simp [numL, hd] at h; omega
    · simp [numL, hd] at h
  | [], h => simp [numL] at h
  | a :: b :: c :: r, h => simp [numL] at h

/-- What Noun answers: how manieth, which name, all of it. -/
def allW : List UInt8 := [97, 108, 108]
def nounT (first name : List UInt8) : Option (Nat × List UInt8 × Bool) :=
  if name = [] ∨ 46 ∈ name then none else if first = allW then some (1, name, true) else match numL first with | some n => some (n, name, false) | none => none
def nounL (w : List UInt8) : Option (Nat × List UInt8 × Bool) :=
  if w = allW then some (1, [], true) else if (cutL 46 w).2.2 = true then nounT (cutL 46 w).1 (cutL 46 w).2.1 else nounT [49] w

/-- For whom or what; none: the words are not such as the verb may have. -/
def joins (x : List UInt8) : Bool := decide (x = [102, 114, 111, 109]) || decide (x = [105, 110]) || decide (x = [116, 111])
def lone : List (List UInt8) → Option (List UInt8)
  | [x] => some x
  | _ => none
def secondL (v : Nat) (rest : List (List UInt8)) : Option (List UInt8) :=
  if v = 7 ∨ v = 9 ∨ v = 10 then
    match rest with
    | [] => if v = 7 then some [] else none
    | x :: r => if joins x = true then lone r else lone (x :: r)
  else if rest = [] then some [] else none

/-- An order. -/
structure Ord where
  verb : Nat
  nth : Nat
  all : Bool
  name : List UInt8
  second : List UInt8
  text : List UInt8

def zo : Ord := { verb := 0, nth := 0, all := false, name := [], second := [], text := [] }

def deedL (v : Nat) (noun : List UInt8) (rest : List (List UInt8)) : Option Ord :=
  match nounL noun with
  | none => none
  | some (n, name, every) =>
    if every = true ∧ v ≠ 7 ∧ v ≠ 8 ∧ v ≠ 9 then none
    else match secondL v rest with
      | none => none
      | some tw => some { verb := v, nth := n, all := every, name := name, second := tw, text := [] }

def trimL (l : List UInt8) : List UInt8 := l.dropWhile (fun b => decide (b = 32))
def trimR (l : List UInt8) : List UInt8 := (trimL l.reverse).reverse

def speechL (s : List UInt8) : Option Ord :=
  if trimL (trimR (cutL 32 (trimL s)).2.1) = [] then none
  else some { verb := 11, nth := 0, all := false, name := [], second := [], text := trimL (trimR (cutL 32 (trimL s)).2.1) }

def aloneB (v : Nat) : Bool := decide (v < 6) || decide (v = 6) || decide (v = 19) || decide (v = 20)
def calledL (d : Nat) : List UInt8 := if d < 6 then verbs.getD d [] else []

/-- The order of words whose first means v. -/
def orderL (s : List UInt8) (v : Nat) (rest : List (List UInt8)) : Option Ord :=
  if v = 11 then speechL s
  else if aloneB v = true then (if rest = [] then some { zo with verb := v } else none)
  else match rest with
    | [] => none
    | x :: r =>
      if (v = 12 ∨ v = 13) ∧ r = [] then
        match verbL x with
        | some d => if d < 6 then some { zo with verb := v, nth := 1, name := calledL d } else deedL v x r
        | none => deedL v x r
      else deedL v x r

/-- The order of a line, and the error. -/
def parseL (s : List UInt8) : Ord × Int :=
  match splitL s with
  | [] => (zo, 1)
  | x :: rest =>
    match verbL x with
    | none => (zo, 3)
    | some v => match orderL s v rest with
      | some o => (o, 0)
      | none => (zo, 1)
end Go.Proofs.YtaifjndkgfffpaaDoor
