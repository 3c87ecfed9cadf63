/-
  Contracts of command, settle, keep, finish of package telnet: each turns the codec that its pointer leads to.
-/
import Derived.Test.YtbjcmnemcgadjaaSay
namespace Go.Proofs.Ytbjcmnemcgadjaa
open Go.RowKit

def cmd (t : Tel) (c : Int) : Tel :=
  if c = 250 then { t with pos := 3, sub := ⟨#[]⟩ } else if 251 ≤ c ∧ c ≤ 254 then { t with pos := 2, verb := c } else { t with pos := 0 }

def setl (t : Tel) (o : Int) : Tel × List UInt8 :=
  if t.verb = 253 then
    if o = 1 then ({ t with pos := 0, verb := 0, u0 := 1 }, if t.u0 = 0 then sayL 251 1 else [])
    else if o = 3 then ({ t with pos := 0, verb := 0, u1 := 1 }, if t.u1 = 0 then sayL 251 3 else [])
    else ({ t with pos := 0, verb := 0 }, sayL 252 o)
  else if t.verb = 254 then
    if o = 1 then ({ t with pos := 0, verb := 0, u0 := 0 }, if t.u0 = 1 then sayL 252 1 else [])
    else if o = 3 then ({ t with pos := 0, verb := 0, u1 := 0 }, if t.u1 = 1 then sayL 252 3 else [])
    else ({ t with pos := 0, verb := 0 }, [])
  else if t.verb = 251 then
    if o = 3 then ({ t with pos := 0, verb := 0, t1 := 1 }, if t.t1 = 0 then sayL 253 3 else [])
    else if o = 31 then ({ t with pos := 0, verb := 0, t2 := 1 }, if t.t2 = 0 then sayL 253 31 else [])
    else ({ t with pos := 0, verb := 0 }, sayL 254 o)
  else if t.verb = 252 then
    if o = 3 then ({ t with pos := 0, verb := 0, t1 := 0 }, if t.t1 = 1 then sayL 254 3 else [])
    else if o = 31 then ({ t with pos := 0, verb := 0, t2 := 0 }, if t.t2 = 1 then sayL 254 31 else [])
    else ({ t with pos := 0, verb := 0 }, [])
  else ({ t with pos := 0, verb := 0 }, [])

def kp (t : Tel) (c : UInt8) : Tel := if t.sub.size < 16 then { t with sub := t.sub ++ ⟨#[c]⟩ } else t

def fin (t : Tel) (c : UInt8) : Tel :=
  { t with pos := 0, sub := ⟨#[]⟩, height := if c = 240 ∧ t.sub.size = 5 ∧ t.sub.data.toList.getD 0 0 = 31 ∧ t.t2 = 1 then min (256 * ((t.sub.data.toList.getD 3 0).toNat : Int) + ((t.sub.data.toList.getD 4 0).toNat : Int)) 200 else t.height }

/-- Block b holds the codec t. -/
def Cod (w : World) (b : Nat) (t : Tel) : Prop := w.heap[b]? = some (.cells t.cells 25 (0, 0))

theorem Cod.cell {w : World} {b : Nat} {t : Tel} (h : Cod w b t) (o : Nat) : w.cell? ⟨b, o, none⟩ = t.cells[o]? := by
  unfold Cod at h; simp [World.cell?, h]

theorem Cod.frozen {w : World} {b : Nat} {t : Tel} (h : Cod w b t) (o : Nat) : w.frozen? ⟨b, o, none⟩ = false := by
  unfold Cod at h; simp [World.frozen?, h]

theorem Cod.lt {w : World} {b : Nat} {t : Tel} (h : Cod w b t) : b < w.heap.size := (Array.getElem?_eq_some_iff.1 h).1

theorem Cod.all {w : World} {b : Nat} {t : Tel} (h : Cod w b t) :
    w.cell? ⟨b, 0, none⟩ = some (.int .i64 t.pos) ∧ w.cell? ⟨b, 1, none⟩ = some (.int .i64 t.verb) ∧ w.cell? ⟨b, 2, none⟩ = some (.string t.sub) ∧
    w.cell? ⟨b, 3, none⟩ = some (.int .i64 t.u0) ∧ w.cell? ⟨b, 4, none⟩ = some (.int .i64 t.u1) ∧ w.cell? ⟨b, 5, none⟩ = some (.int .i64 t.u2) ∧
    w.cell? ⟨b, 6, none⟩ = some (.int .i64 t.t0) ∧ w.cell? ⟨b, 7, none⟩ = some (.int .i64 t.t1) ∧ w.cell? ⟨b, 8, none⟩ = some (.int .i64 t.t2) ∧
    w.cell? ⟨b, 9, none⟩ = some (.int .i64 t.height) ∧ ∀ o, w.frozen? ⟨b, o, none⟩ = false :=
  ⟨h.cell 0, h.cell 1, h.cell 2, h.cell 3, h.cell 4, h.cell 5, h.cell 6, h.cell 7, h.cell 8, h.cell 9, h.frozen⟩

theorem cod_mk {w : World} {b : Nat} {t : Tel} {cs : Array Value} (h : w.heap[b]? = some (.cells cs 25 (0, 0))) (e : cs = t.cells) : Cod w b t := by
  subst e; exact h

theorem cod_set {w : World} {b : Nat} {cs : Array Value} (h : w.heap[b]? = some (.cells cs 25 (0, 0))) (o : Nat) (v : Value) :
    (w.setCell ⟨b, o, none⟩ v).heap[b]? = some (.cells (cs.setIfInBounds o v) 25 (0, 0)) := heap_setCell_same w b o cs 25 v h

theorem cod_drewN {w : World} {b : Nat} {cs : Array Value} (h : w.heap[b]? = some (.cells cs 25 (0, 0))) (n : Nat) : (w.drewN n).heap[b]? = some (.cells cs 25 (0, 0)) := h

theorem cod_below {w w' : World} {b : Nat} {cs : Array Value} {B : Nat} (h : w.heap[b]? = some (.cells cs 25 (0, 0))) (hb : Below B w w') (hB : b < B) : w'.heap[b]? = some (.cells cs 25 (0, 0)) := by
  rw [hb.block b hB]; exact h

theorem cod_drew {w : World} {b : Nat} {cs : Array Value} (h : w.heap[b]? = some (.cells cs 25 (0, 0))) : w.drew.heap[b]? = some (.cells cs 25 (0, 0)) := h

theorem cod_alloc {w : World} {b : Nat} {cs : Array Value} (h : w.heap[b]? = some (.cells cs 25 (0, 0))) (o : Obj) : (w.alloc o).heap[b]? = some (.cells cs 25 (0, 0)) := by
  rw [Below.heap_alloc _ _ _ (Array.getElem?_eq_some_iff.1 h).1]; exact h

theorem grown_refl (w : World) (r : Option Nat) : w.grownBy w r := ⟨rfl, rfl, rfl, Nat.le_refl _, fun _ _ _ => rfl⟩

theorem grown_trans {a b c : World} {r : Option Nat} (h : a.grownBy b r) (k : b.grownBy c r) : a.grownBy c r :=
  ⟨k.os.trans h.os, k.tape.trans h.tape, k.output.trans h.output, Nat.le_trans h.size k.size, fun i hi hn => (k.block i (Nat.lt_of_lt_of_le hi h.size) hn).trans (h.block i hi hn)⟩

theorem grown_set {a w : World} {b : Nat} (h : a.grownBy w (some b)) (o : Nat) (v : Value) : a.grownBy (w.setCell ⟨b, o, none⟩ v) (some b) :=
  grown_trans h ⟨rfl, rfl, rfl, by simp [World.setCell], fun k _ hk => Below.heap_setCell _ _ _ _ (by intro e; apply hk; simp [e])⟩

theorem grown_below {a w w' : World} {r : Option Nat} {B : Nat} (h : a.grownBy w r) (hb : Below B w w') (hB : a.heap.size ≤ B) : a.grownBy w' r :=
  ⟨hb.os.trans h.os, hb.tape.trans h.tape, hb.output.trans h.output, Nat.le_trans h.size hb.size, fun i hi hn => (hb.block i (by omega)).trans (h.block i hi hn)⟩

theorem grown_drew {a w : World} {r : Option Nat} (h : a.grownBy w r) : a.grownBy w.drew r := ⟨h.os, h.tape, h.output, h.size, h.block⟩

theorem grown_alloc {a w : World} {r : Option Nat} (h : a.grownBy w r) (o : Obj) : a.grownBy (w.alloc o) r := grown_trans h (World.grownBy_alloc w o r)

theorem grown_drewN {a w : World} {r : Option Nat} (h : a.grownBy w r) (n : Nat) : a.grownBy (w.drewN n) r := ⟨h.os, h.tape, h.output, h.size, h.block⟩

set_option maxHeartbeats 400000 in
theorem command_any (t : Tel) (b : Nat) (c : Int) (w : World) (h : Cod w b t) :
    Calls Try.prog 21 #[.pointer (some ⟨b, 0, none⟩), .int .i64 c] w fun e w' => e = .returned (.tuple #[]) ∧ Cod w' b (cmd t c) ∧ w.grownBy w' (some b) := by
  obtain ⟨c0, c1, c2, c3, c4, c5, c6, c7, c8, c9, hfz⟩ := h.all
  by_cases h250 : c = 250
  · subst h250
    go_enter Try.func21, Try.ntmps21
    go_wp2
    go_end0
    exact ⟨rfl, cod_mk (cod_set (cod_set h _ _) _ _) rfl, grown_set (grown_set (grown_refl _ _) _ _) _ _⟩
  by_cases h251 : c = 251
  · subst h251
    go_enter Try.func21, Try.ntmps21
    go_wp2
    go_end0
    exact ⟨rfl, cod_mk (cod_set (cod_set h _ _) _ _) rfl, grown_set (grown_set (grown_refl _ _) _ _) _ _⟩
  by_cases h252 : c = 252
  · subst h252
    go_enter Try.func21, Try.ntmps21
    go_wp2
    go_end0
    exact ⟨rfl, cod_mk (cod_set (cod_set h _ _) _ _) rfl, grown_set (grown_set (grown_refl _ _) _ _) _ _⟩
  by_cases h253 : c = 253
  · subst h253
    go_enter Try.func21, Try.ntmps21
    go_wp2
    go_end0
    exact ⟨rfl, cod_mk (cod_set (cod_set h _ _) _ _) rfl, grown_set (grown_set (grown_refl _ _) _ _) _ _⟩
  by_cases h254 : c = 254
  · subst h254
    go_enter Try.func21, Try.ntmps21
    go_wp2
    go_end0
    exact ⟨rfl, cod_mk (cod_set (cod_set h _ _) _ _) rfl, grown_set (grown_set (grown_refl _ _) _ _) _ _⟩
  have e0 : (c == 250) = false := by simpa using h250
  have e1 : (c == 251) = false := by simpa using h251
  have e2 : (c == 252) = false := by simpa using h252
  have e3 : (c == 253) = false := by simpa using h253
  have e4 : (c == 254) = false := by simpa using h254
  have HC : Hid (cmd t c = { t with pos := 0 }) := by unfold cmd; rw [if_neg h250, if_neg (by omega)]; rfl
  go_enter Try.func21, Try.ntmps21
  go_wp2
  go_end0
  exact ⟨rfl, by rw [HC.out]; exact cod_mk (cod_set h _ _) rfl, grown_set (grown_refl _ _) _ _⟩

set_option maxHeartbeats 400000 in
theorem keep_any (t : Tel) (b : Nat) (c : UInt8) (w : World) (h : Cod w b t) (hs : t.sub.size ≤ 16) :
    Calls Try.prog 23 #[.pointer (some ⟨b, 0, none⟩), .int .u8 c.toNat] w fun e w' => e = .returned (.tuple #[]) ∧ Cod w' b (kp t c) ∧ w.grownBy w' (some b) := by
  obtain ⟨c0, c1, c2, c3, c4, c5, c6, c7, c8, c9, hfz⟩ := h.all
  by_cases hlt : t.sub.size < 16
  · have HC : Hid (kp t c = { t with sub := t.sub ++ ⟨#[c]⟩ }) := by unfold kp; rw [if_pos hlt]; rfl
    have hcv : ∀ W : World, W.cell? ⟨w.heap.size, 0, none⟩ = some (.int .u8 c.toNat) → (convert 36 9 (.slice (some ⟨w.heap.size, 0, none⟩) 1 1)).run Try.prog W = .ok (.string ⟨#[c]⟩) W := fun W hW => by
      refine conv_bytes W _ 1 1 [c] rfl ?_
      intro j v hj
      cases j with
      | zero => simp [bcells] at hj; subst hj; exact hW
      | succ j => simp [bcells] at hj
    have hbl := h.lt
    have hcc : ¬ 9223372036854775807 < t.sub.size + 1 := by omega
    go_enter Try.func23, Try.ntmps23
    go_wp2
    go_region
    go_wp2
    go_end0
    exact ⟨rfl, by rw [HC.out]; exact cod_mk (cod_drew (cod_alloc (cod_set h _ _) _)) rfl, grown_drew (grown_alloc (grown_set (grown_refl _ _) _ _) _)⟩
  · have HC : Hid (kp t c = t) := by unfold kp; rw [if_neg hlt]; rfl
    go_enter Try.func23, Try.ntmps23
    go_wp2
    go_end0
    exact ⟨rfl, by rw [HC.out]; exact h, grown_refl _ _⟩

theorem five (s : ByteArray) (h : s.size = 5) : ∃ x0 x1 x2 x3 x4 : UInt8, s = ⟨#[x0, x1, x2, x3, x4]⟩ := by
  obtain ⟨⟨l⟩⟩ := s
  have h' : l.length = 5 := h
  match l, h' with
  | [x0, x1, x2, x3, x4], _ => exact ⟨x0, x1, x2, x3, x4, rfl⟩

theorem byte_beq (c : UInt8) (n : Nat) (hn : n < 256) : (((c.toNat : Nat) : Int) == (n : Int)) = decide (c = UInt8.ofNat n) := by
  rw [Bool.eq_iff_iff]
  simp only [beq_iff_eq, decide_eq_true_eq]
  constructor
  · intro h; apply UInt8.toNat.inj; rw [UInt8.toNat_ofNat']; omega
  · intro h; subst h; rw [UInt8.toNat_ofNat']; omega

theorem or_bytes (x y : UInt8) : bits BinOp.or IntKind.i64 (wrap64 (wrap64 ((x.toNat : Nat) : Int) * 256)) (wrap64 ((y.toNat : Nat) : Int)) = 256 * ((x.toNat : Nat) : Int) + ((y.toNat : Nat) : Int) := by
  have hx : x.toNat < 256 := x.toNat_lt
  have hy : y.toNat < 256 := y.toNat_lt
  generalize x.toNat = a at *
  generalize y.toNat = b at *
  have e1 : wrap64 ((a : Nat) : Int) = a := by unfold wrap64; omega
  have e2 : wrap64 (((a : Nat) : Int) * 256) = ((a * 256 : Nat) : Int) := by unfold wrap64; omega
  have e3 : wrap64 ((b : Nat) : Int) = b := by unfold wrap64; omega
  rw [e1, e2, e3]
  show IntKind.i64.wrap ((BitVec.ofInt 64 ((a * 256 : Nat) : Int) ||| BitVec.ofInt 64 (b : Int)).toNat : Int) = _
  have n1 : (BitVec.ofInt 64 ((a * 256 : Nat) : Int)).toNat = a * 256 := by rw [BitVec.ofInt_natCast, BitVec.toNat_ofNat]; omega
  have n2 : (BitVec.ofInt 64 (b : Int)).toNat = b := by rw [BitVec.ofInt_natCast, BitVec.toNat_ofNat]; omega
  have e4 : a * 256 ||| b = a * 256 + b := by
    have := Nat.shiftLeft_add_eq_or_of_lt (i := 8) (b := b) (by omega) a
    rw [Nat.shiftLeft_eq] at this
    exact this.symm
  rw [BitVec.toNat_or, n1, n2, e4]
  simp only [IntKind.wrap, IntKind.bits, IntKind.signed]
  simp
  omega
end Go.Proofs.Ytbjcmnemcgadjaa
