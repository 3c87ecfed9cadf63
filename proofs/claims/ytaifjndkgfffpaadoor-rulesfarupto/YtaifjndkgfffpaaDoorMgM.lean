/-
  Forms of lines, what their marks stand for, what is told: plain mathematics.
-/
import Derived.Test.YtaifjndkgfffpaaDoorMgB
import Derived.Lib.ItoaMem
import Derived.Lib.AppendStr
import Derived.Lib.UnsafeStr
import Derived.Lib.ItoaLen
import Derived.Test.YtaifjndkgfffpaaDoorMgC
namespace Go.Proofs.YtaifjndkgfffpaaDoor
open Go.RowKit
set_option linter.unusedVariables false

/-- The form of the line for the actor; for others. -/
def formA (k : Int) : List UInt8 := if k = 1 then [89, 111, 117, 32, 103, 111, 32, 68, 46] else if k = 2 then [] else if k = 3 then [89, 111, 117, 32, 103, 101, 116, 32, 116, 104, 101, 32, 84, 46] else if k = 4 then [89, 111, 117, 32, 100, 114, 111, 112, 32, 116, 104, 101, 32, 84, 46] else if k = 5 then [89, 111, 117, 32, 112, 117, 116, 32, 116, 104, 101, 32, 84, 32, 105, 110, 116, 111, 32, 116, 104, 101, 32, 88, 46] else if k = 6 then [89, 111, 117, 32, 103, 105, 118, 101, 32, 116, 104, 101, 32, 84, 32, 116, 111, 32, 79, 46] else if k = 7 then [89, 111, 117, 32, 115, 97, 121, 58, 32, 88] else if k = 8 then [89, 111, 117, 32, 111, 112, 101, 110, 32, 116, 104, 101, 32, 84, 46] else if k = 9 then [89, 111, 117, 32, 99, 108, 111, 115, 101, 32, 116, 104, 101, 32, 84, 46] else if k = 10 then [89, 111, 117, 32, 108, 105, 103, 104, 116, 32, 116, 104, 101, 32, 84, 46] else if k = 11 then [89, 111, 117, 32, 100, 111, 117, 115, 101, 32, 116, 104, 101, 32, 84, 46] else if k = 12 then [89, 111, 117, 32, 112, 117, 116, 32, 111, 110, 32, 116, 104, 101, 32, 84, 46] else if k = 13 then [89, 111, 117, 32, 116, 97, 107, 101, 32, 111, 102, 102, 32, 116, 104, 101, 32, 84, 46] else if k = 14 then [89, 111, 117, 32, 104, 105, 116, 32, 79, 32, 102, 111, 114, 32, 78, 46] else if k = 15 then [89, 111, 117, 32, 100, 105, 101, 46] else if k = 16 then [88] else if k = 17 then [66, 101, 32, 119, 101, 108, 99, 111, 109, 101, 46] else if k = 18 then [] else []
def formO (k : Int) : List UInt8 := if k = 1 then [65, 32, 103, 111, 101, 115, 32, 68, 46] else if k = 2 then [65, 32, 99, 111, 109, 101, 115, 32, 102, 114, 111, 109, 32, 68, 46] else if k = 3 then [65, 32, 103, 101, 116, 115, 32, 97, 32, 84, 46] else if k = 4 then [65, 32, 100, 114, 111, 112, 115, 32, 97, 32, 84, 46] else if k = 5 then [65, 32, 112, 117, 116, 115, 32, 97, 32, 84, 32, 105, 110, 116, 111, 32, 97, 32, 88, 46] else if k = 6 then [65, 32, 103, 105, 118, 101, 115, 32, 97, 32, 84, 32, 116, 111, 32, 79, 46] else if k = 7 then [65, 32, 115, 97, 121, 115, 58, 32, 88] else if k = 8 then [65, 32, 111, 112, 101, 110, 115, 32, 97, 32, 84, 46] else if k = 9 then [65, 32, 99, 108, 111, 115, 101, 115, 32, 97, 32, 84, 46] else if k = 10 then [65, 32, 108, 105, 103, 104, 116, 115, 32, 97, 32, 84, 46] else if k = 11 then [65, 32, 100, 111, 117, 115, 101, 115, 32, 97, 32, 84, 46] else if k = 12 then [65, 32, 112, 117, 116, 115, 32, 111, 110, 32, 97, 32, 84, 46] else if k = 13 then [65, 32, 116, 97, 107, 101, 115, 32, 111, 102, 102, 32, 97, 32, 84, 46] else if k = 14 then [65, 32, 104, 105, 116, 115, 32, 79, 32, 102, 111, 114, 32, 78, 46] else if k = 15 then [65, 32, 100, 105, 101, 115, 46] else if k = 16 then [] else if k = 17 then [65, 32, 97, 114, 114, 105, 118, 101, 115, 46] else if k = 18 then [65, 32, 102, 97, 100, 101, 115, 46] else []

/-- The kinds that there are. -/
def isKind (k : Int) : Prop := 1 ≤ k ∧ k ≤ 18
theorem kind_cases (k : Int) : k = 1 ∨ k = 2 ∨ k = 3 ∨ k = 4 ∨ k = 5 ∨ k = 6 ∨ k = 7 ∨ k = 8 ∨ k = 9 ∨ k = 10 ∨ k = 11 ∨ k = 12 ∨ k = 13 ∨ k = 14 ∨ k = 15 ∨ k = 16 ∨ k = 17 ∨ k = 18 ∨ ¬ isKind k := by unfold isKind; omega
theorem formA_none {k : Int} (h : ¬ isKind k) : formA k = [] := by
  unfold isKind at h
  unfold formA
  iterate 18 rw [if_neg (by omega)]
theorem formO_none {k : Int} (h : ¬ isKind k) : formO k = [] := by
  unfold isKind at h
  unfold formO
  iterate 18 rw [if_neg (by omega)]
theorem form_len (k : Int) : (formA k).length ≤ 25 ∧ (formO k).length ≤ 25 := by
  rcases kind_cases k with rfl | rfl | rfl | rfl | rfl | rfl | rfl | rfl | rfl | rfl | rfl | rfl | rfl | rfl | rfl | rfl | rfl | rfl | h
  iterate 18 (exact ⟨by decide, by decide⟩)
  rw [formA_none h, formO_none h]; simp

/-- What a mark stands for. -/
def markL (E : Ev) (c : UInt8) : List UInt8 :=
  if c = 65 then E.who.data.toList else if c = 79 then E.whom.data.toList else if c = 84 then E.thing.data.toList else if c = 68 then calledI E.dir else if c = 88 then E.text.data.toList else if c = 78 then Lib.itoa E.num else [c]
def fillL (E : Ev) (f : List UInt8) : List UInt8 := f.flatMap (markL E)
theorem fill_snoc (E : Ev) (f : List UInt8) (k : Nat) (hk : k < f.length) : fillL E (f.take (k + 1)) = fillL E (f.take k) ++ markL E f[k] := by
  unfold fillL
  rw [List.take_succ_eq_append_getElem hk, List.flatMap_append]
  simp

def someoneL : List UInt8 := [115, 111, 109, 101, 111, 110, 101]
def youL : List UInt8 := [121, 111, 117]
/-- Bits. -/
def bitB (x m : Int) : Bool := bits .and .i64 x m != 0
/-- An event as a being knows it. -/
def asKnown (E : Ev) (b : Nat) : Ev := { E with
  who := if bitB (E.by' b) 2 = true then bs someoneL else E.who
  whom := if (b : Int) = E.other then bs youL else if bitB (E.by' b) 4 = true then bs someoneL else E.whom }
def formOf (E : Ev) (b : Nat) : List UInt8 := if (b : Int) = E.actor then formA E.kind else formO E.kind
/-- What a being is told. -/
def tellL (E : Ev) (b : Int) : Option (List UInt8) :=
  if amg b 6 = true ∧ bitB (E.by' b.toNat) 1 = true ∧ formOf E b.toNat ≠ [] then some (fillL (asKnown E b.toNat) (formOf E b.toNat)) else none
end Go.Proofs.YtaifjndkgfffpaaDoor
/-
  The forms: their contract.
-/
namespace Go.Proofs.YtaifjndkgfffpaaDoor
open Go.RowKit
set_option linter.unusedVariables false

theorem ret_forms {k : Int} {a b : ByteArray} (ha : a = bs (formA k)) (hb : b = bs (formO k)) : Ending.returned (.tuple #[.string a, .string b]) = .returned (.tuple #[.string (bs (formA k)), .string (bs (formO k))]) := by rw [ha, hb]

set_option maxRecDepth 100000 in
set_option maxHeartbeats 1000000 in
theorem forms_any (k : Int) (w : World) : Calls Tryd.prog 39 #[.int .i64 k] w fun e w' => e = .returned (.tuple #[.string (bs (formA k)), .string (bs (formO k))]) ∧ w' = w := by
  rcases kind_cases k with rfl | rfl | rfl | rfl | rfl | rfl | rfl | rfl | rfl | rfl | rfl | rfl | rfl | rfl | rfl | rfl | rfl | rfl | h
  iterate 18
    · go_enter Tryd.func39, Tryd.ntmps39
      go_wp2
      go_ret2
      exact ⟨rfl, rfl⟩
  have HA := hide (formA_none h)
  have HO := hide (formO_none h)
  have e1 : (k == 1) = false := by unfold isKind at h; simp; omega
  have e2 : (k == 2) = false := by unfold isKind at h; simp; omega
  have e3 : (k == 3) = false := by unfold isKind at h; simp; omega
  have e4 : (k == 4) = false := by unfold isKind at h; simp; omega
  have e5 : (k == 5) = false := by unfold isKind at h; simp; omega
  have e6 : (k == 6) = false := by unfold isKind at h; simp; omega
  have e7 : (k == 7) = false := by unfold isKind at h; simp; omega
  have e8 : (k == 8) = false := by unfold isKind at h; simp; omega
  have e9 : (k == 9) = false := by unfold isKind at h; simp; omega
  have e10 : (k == 10) = false := by unfold isKind at h; simp; omega
  have e11 : (k == 11) = false := by unfold isKind at h; simp; omega
  have e12 : (k == 12) = false := by unfold isKind at h; simp; omega
  have e13 : (k == 13) = false := by unfold isKind at h; simp; omega
  have e14 : (k == 14) = false := by unfold isKind at h; simp; omega
  have e15 : (k == 15) = false := by unfold isKind at h; simp; omega
  have e16 : (k == 16) = false := by unfold isKind at h; simp; omega
  have e17 : (k == 17) = false := by unfold isKind at h; simp; omega
  have e18 : (k == 18) = false := by unfold isKind at h; simp; omega
  clear h
  go_enter Tryd.func39, Tryd.ntmps39
  go_wp2
  go_ret2
  exact ⟨ret_forms (by rw [HA.out]; rfl) (by rw [HO.out]; rfl), rfl⟩
end Go.Proofs.YtaifjndkgfffpaaDoor
/-
  A form filled: its contract. Ai: strconv.AppendInt lays a number's numeral behind a row, in whatever world behind this one.
-/
namespace Go.Proofs.YtaifjndkgfffpaaDoor
open Go.RowKit
set_option linter.unusedVariables false

def Ai (w0 : World) : Prop := ∀ (w : World) (B n : Nat) (i : Int) (sv : Value) (xs : List Value), Below w0.heap.size w0 w → w0.heap.size ≤ B → -9223372036854775808 ≤ i → i ≤ 9223372036854775807 → w.ownsRow B 5 1 sv n xs → B ≤ w.heap.size → n + 21 ≤ 140737488355328 →
  Calls Tryd.prog 74 #[sv, .int .i64 i, .int .i64 10] w fun e w' => ∃ v', e = .returned v' ∧ w'.ownsRow B 5 1 v' (n + (Lib.itoa i).length) (xs ++ Lib.byteCells (Lib.itoa i)) ∧ Below B w w'
theorem Ai.below {w0 w1 : World} (h : Ai w0) (hb : Below w0.heap.size w0 w1) : Ai w1 := fun w B n i sv xs hb1 hB h0 h1 ho hBw hl =>
  h w B n i sv xs (hb.trans (hb1.mono hb.size)) (Nat.le_trans hb.size hB) h0 h1 ho hBw hl

theorem Tryd.info5 : (Tryd.prog.info? 5).map (fun i => (i.zero, i.size, i.bytes)) = some (some (.int .u8 0), 1, 1) := by kernel_rfl

theorem own_shapeB {w : World} {base : Nat} {v : Value} {n : Nat} {xs : List Value} (h : w.ownsRow base 5 1 v n xs) : ∃ (av : Option Addr) (cap : Nat), v = .slice av n cap := by
  rcases h.2 with ⟨rfl, rfl⟩ | ⟨g, cap, cur, rfl, _⟩
  · exact ⟨_, _, rfl⟩
  · exact ⟨_, _, rfl⟩

/-- Bytes of one's own, as a text. -/
theorem conv_own {w : World} {base : Nat} {v : Value} {l : List UInt8} (h : w.ownsRow base 5 1 v l.length (Lib.byteCells l)) : (convert 68 9 v).run Tryd.prog w = .ok (.string (bs l)) w := by
  rcases h.2 with ⟨rfl, h0⟩ | ⟨g, cap, cur, rfl, hbg, hgg, hnc, hcm, hcs, htake⟩
  · rw [List.eq_nil_of_length_eq_zero h0]
    rw [run_convert_bytes_string w 68 9 5 none _ _ Tryd.underlying68 Tryd.underlying5 Tryd.underlying9]
    rfl
  · exact run_convert_bytes_back w 68 9 5 ⟨g, 0, none⟩ cap l Tryd.underlying68 Tryd.underlying5 Tryd.underlying9 (fun j hj => h.cells (g := g) rfl j _ (by simp [Lib.byteCells, hj]))

/-- A round's head. -/
structure FRel (E : Ev) (w : World) (v : Value) (l : List UInt8) (wr : World) : Prop where
  own : wr.ownsRow (w.heap.size + 1) 5 1 v l.length (Lib.byteCells l)
  cev : Cev wr w.heap.size E
  low : Below w.heap.size w wr
  size : w.heap.size + 1 ≤ wr.heap.size

section
variable {E : Ev} {w wr wr' : World} {v v' : Value} {l m : List UInt8}
theorem FRel.on (h : FRel E w v l wr) (ho : wr'.ownsRow (w.heap.size + 1) 5 1 v' (l.length + m.length) (Lib.byteCells l ++ Lib.byteCells m)) (hb : Below (w.heap.size + 1) wr wr') : FRel E w v' (l ++ m) wr' := by
  refine ⟨?_, ?_, h.low.trans (hb.mono (by omega)), by have := hb.size; have := h.size; omega⟩
  · have e2 : Lib.byteCells (l ++ m) = Lib.byteCells l ++ Lib.byteCells m := by simp [Lib.byteCells]
    rw [List.length_append, e2]; exact ho
  · have := h.cev
    unfold Cev at this ⊢
    rw [hb.block _ (by omega)]; exact this
theorem FRel.grown (h : FRel E w v l wr) (ho : wr'.ownsRow (w.heap.size + 1) 5 1 v' (l.length + m.length) (Lib.byteCells l ++ Lib.byteCells m)) (hg : wr.grownBy wr' v.ownBlock) : FRel E w v' (l ++ m) wr' :=
  h.on ho ((Below.refl _ _ : Below (w.heap.size + 1) wr wr).grown hg (by have := h.size; omega) (fun k hk => (h.own.lt k (by simpa using hk)).1))
theorem FRel.box (h : FRel E w v l wr) (o : Obj) : FRel E w v l (wr.alloc o) :=
  ⟨h.own.alloc o, h.cev.alloc o, h.low.alloc h.low.size o, by have := h.size; simp; omega⟩
theorem fr_start (E : Ev) (w : World) : FRel E w (.slice none 0 0) [] (w.alloc (.cells E.cells 52)) :=
  ⟨World.ownsRow_nil _ _ _ _, cev_new w E, (Below.refl _ _).alloc (Nat.le_refl _) _, by simp⟩
end

theorem fill_le (E : Ev) (f : List UInt8) (k : Nat) : (fillL E (f.take k)).length ≤ (fillL E f).length := by
  have : fillL E f = fillL E (f.take k) ++ fillL E (f.drop k) := by
    unfold fillL
    rw [← List.flatMap_append, List.take_append_drop]
  rw [this, List.length_append]; omega
theorem u8_beq (c : UInt8) (n : Nat) (hn : n < 256) : (((c.toNat : Nat) : Int) == (n : Int)) = decide (c = UInt8.ofNat n) := byte_beq c n hn
end Go.Proofs.YtaifjndkgfffpaaDoor
/-
  A form filled: its contract.
-/
namespace Go.Proofs.YtaifjndkgfffpaaDoor
open Go.RowKit
set_option linter.unusedVariables false

theorem mark_nat (E : Ev) (c : UInt8) : markL E c = if c.toNat = 65 then E.who.data.toList else if c.toNat = 79 then E.whom.data.toList else if c.toNat = 84 then E.thing.data.toList else if c.toNat = 68 then calledI E.dir else if c.toNat = 88 then E.text.data.toList else if c.toNat = 78 then Lib.itoa E.num else [c] := by
  have e : ∀ n : Nat, n < 256 → (c = UInt8.ofNat n) = (c.toNat = n) := fun n hn => propext ⟨fun h => by rw [h, UInt8.toNat_ofNat']; omega, fun h => by rw [← h, UInt8.ofNat_toNat]⟩
  have e1 : (c = 65) = (c.toNat = 65) := e 65 (by decide)
  have e2 : (c = 79) = (c.toNat = 79) := e 79 (by decide)
  have e3 : (c = 84) = (c.toNat = 84) := e 84 (by decide)
  have e4 : (c = 68) = (c.toNat = 68) := e 68 (by decide)
  have e5 : (c = 88) = (c.toNat = 88) := e 88 (by decide)
  have e6 : (c = 78) = (c.toNat = 78) := e 78 (by decide)
  unfold markL
  simp only [e1, e2, e3, e4, e5, e6]
theorem len_of (s : ByteArray) : s.data.toList.length = s.size := by rw [Array.length_toList]; rfl

set_option maxRecDepth 100000 in
set_option maxHeartbeats 4000000 in
theorem filled_any (f : ByteArray) (E : Ev) (w : World) (hv : Vb w) (hai : Ai w) (hn0 : -9223372036854775808 ≤ E.num) (hn1 : E.num ≤ 9223372036854775807) (hf : f.size ≤ 140737488355328) (hs : (fillL E f.data.toList).length + 21 ≤ 140737488355328) :
    Calls Tryd.prog 40 #[.string f, .agg E.cells] w fun e w' => e = .returned (.string (bs (fillL E f.data.toList))) ∧ Below w.heap.size w w' := by
  obtain ⟨i0, hi0, hz0, hz1, hz2⟩ := info_parts Tryd.info5
  have HV := hide hv
  have HAi := hide hai
  have HN := hide (And.intro hn0 hn1)
  have HT := hide hs
  clear hv hai hn0 hn1 hs
  go_enter Tryd.func40, Tryd.ntmps40
  go_wp2
  go_loopw [5, 9] (fun v i wr => ∃ k : Nat, k ≤ f.size ∧ i = .int .i64 k ∧ FRel E w v (fillL E (f.data.toList.take k)) wr) (fun _ i _ => f.size - (intOf i).toNat)
  case atStart => exact ⟨0, Nat.zero_le _, rfl, fr_start E w⟩
  case round =>
    obtain ⟨k, hk, rfl, R⟩ := hrel
    by_cases hlt : k < f.size
    · have hkl : k < f.data.toList.length := by rw [len_of]; exact hlt
      have HS := hide (fill_snoc E f.data.toList k hkl)
      have hb := fill_le E f.data.toList (k + 1)
      rw [HS.out, List.length_append] at hb
      have HB := hide (show (fillL E (f.data.toList.take k)).length + (markL E f.data.toList[k]).length ≤ 140737488355307 by have := HT.out; omega)
      have HP := hide (show (fillL E (f.data.toList.take k)).length + 21 ≤ 140737488355328 by have := HT.out; omega)
      clear hb
      obtain ⟨c, hc⟩ : ∃ c : UInt8, c = f.data.toList[k] := ⟨_, rfl⟩
      obtain ⟨x, hxc⟩ : ∃ x : Nat, x = c.toNat := ⟨_, rfl⟩
      have hg : ∀ h, (f[k]'h).toNat = x := fun _ => by rw [hxc, hc]; simp; rfl
      have h256 : x < 256 := by rw [hxc]; exact c.toNat_lt
      rw [← hc] at HS HB
      have HC := hide hxc
      have HL := hide (Lib.itoa_length_le E.num HN.out.1 HN.out.2)
      clear hc hxc hkl
      generalize fillL E (f.data.toList.take k) = l at *
      obtain ⟨av, cap, rfl⟩ := own_shapeB R.own
      have HR := hide R
      clear R
      by_cases hx : x = 65
      · have HM := hide (show markL E c = E.who.data.toList by rw [mark_nat, ← HC.out]; rw [if_pos hx])
        clear HC
        subst hx
        have kf := HR.out.cev.who
        go_wp2_with (at_builtin; refine Lib.wpList_append_own_string _ rfl (.tmp 23) (.tmp 25) 68 9 rfl (w.heap.size + 1) 5 i0 Tryd.underlying68 Tryd.underlying9 hi0 hz0 hz1 hz2 _ l.length (Lib.byteCells l) rfl HR.out.own E.who rfl ?b1 ?b2 ?b3 ?_)
        case b1 => unfold maxLen; have h1 := HB.out; have h2 := HM.out; have h3 := size_len (E.who); rw [h2] at h1; omega
        case b2 => have h1 := HB.out; have h2 := HM.out; have h3 := size_len (E.who); rw [h2] at h1; omega
        case b3 => have := HR.out.size; omega
        intro v' w1 ho hg _
        have N := hide (HR.out.grown (m := markL E c) (v' := v') (by rw [HM.out]; rw [size_len]; exact ho) hg)
        obtain ⟨av', cap', rfl⟩ := own_shapeB ho
        clear ho hg
        go_wp2
        go_roundw
        case rel => exact ⟨k + 1, hlt, by go_num, by rw [HS.out]; exact N.out⟩
        case measure => simp [intOf]; omega
      · have n65 : ((x : Int) == 65) = false := by simp; omega
        by_cases hx : x = 79
        · have HM := hide (show markL E c = E.whom.data.toList by rw [mark_nat, ← HC.out]; rw [if_neg (by omega)]; rw [if_pos hx])
          clear HC
          subst hx
          have kf := HR.out.cev.whom
          go_wp2_with (at_builtin; refine Lib.wpList_append_own_string _ rfl (.tmp 29) (.tmp 31) 68 9 rfl (w.heap.size + 1) 5 i0 Tryd.underlying68 Tryd.underlying9 hi0 hz0 hz1 hz2 _ l.length (Lib.byteCells l) rfl HR.out.own E.whom rfl ?b1 ?b2 ?b3 ?_)
          case b1 => unfold maxLen; have h1 := HB.out; have h2 := HM.out; have h3 := size_len (E.whom); rw [h2] at h1; omega
          case b2 => have h1 := HB.out; have h2 := HM.out; have h3 := size_len (E.whom); rw [h2] at h1; omega
          case b3 => have := HR.out.size; omega
          intro v' w1 ho hg _
          have N := hide (HR.out.grown (m := markL E c) (v' := v') (by rw [HM.out]; rw [size_len]; exact ho) hg)
          obtain ⟨av', cap', rfl⟩ := own_shapeB ho
          clear ho hg
          go_wp2
          go_roundw
          case rel => exact ⟨k + 1, hlt, by go_num, by rw [HS.out]; exact N.out⟩
          case measure => simp [intOf]; omega
        · have n79 : ((x : Int) == 79) = false := by simp; omega
          by_cases hx : x = 84
          · have HM := hide (show markL E c = E.thing.data.toList by rw [mark_nat, ← HC.out]; rw [if_neg (by omega)]; rw [if_neg (by omega)]; rw [if_pos hx])
            clear HC
            subst hx
            have kf := HR.out.cev.thing
            go_wp2_with (at_builtin; refine Lib.wpList_append_own_string _ rfl (.tmp 35) (.tmp 37) 68 9 rfl (w.heap.size + 1) 5 i0 Tryd.underlying68 Tryd.underlying9 hi0 hz0 hz1 hz2 _ l.length (Lib.byteCells l) rfl HR.out.own E.thing rfl ?b1 ?b2 ?b3 ?_)
            case b1 => unfold maxLen; have h1 := HB.out; have h2 := HM.out; have h3 := size_len (E.thing); rw [h2] at h1; omega
            case b2 => have h1 := HB.out; have h2 := HM.out; have h3 := size_len (E.thing); rw [h2] at h1; omega
            case b3 => have := HR.out.size; omega
            intro v' w1 ho hg _
            have N := hide (HR.out.grown (m := markL E c) (v' := v') (by rw [HM.out]; rw [size_len]; exact ho) hg)
            obtain ⟨av', cap', rfl⟩ := own_shapeB ho
            clear ho hg
            go_wp2
            go_roundw
            case rel => exact ⟨k + 1, hlt, by go_num, by rw [HS.out]; exact N.out⟩
            case measure => simp [intOf]; omega
          · have n84 : ((x : Int) == 84) = false := by simp; omega
            by_cases hx : x = 68
            · have HM := hide (show markL E c = calledI E.dir by rw [mark_nat, ← HC.out]; rw [if_neg (by omega)]; rw [if_neg (by omega)]; rw [if_neg (by omega)]; rw [if_pos hx])
              clear HC
              subst hx
              have kf := HR.out.cev.dir
              go_wp2_with fail
              refine (called_any E.dir _ (HV.out.below HR.out.low (Nat.le_refl _))).mono ?_
              rintro e w9 ⟨rfl, hw⟩
              rw [hw]
              clear hw w9
              go_wp2_with (at_builtin; refine Lib.wpList_append_own_string _ rfl (.tmp 41) (.tmp 44) 68 9 rfl (w.heap.size + 1) 5 i0 Tryd.underlying68 Tryd.underlying9 hi0 hz0 hz1 hz2 _ l.length (Lib.byteCells l) rfl HR.out.own (bs (calledI E.dir)) rfl ?b1 ?b2 ?b3 ?_)
              case b1 => unfold maxLen; have h1 := HB.out; have h2 := HM.out; have h3 := size_len ((bs (calledI E.dir))); rw [h2] at h1; rw [bs_data] at h3; omega
              case b2 => have h1 := HB.out; have h2 := HM.out; have h3 := size_len ((bs (calledI E.dir))); rw [h2] at h1; rw [bs_data] at h3; omega
              case b3 => have := HR.out.size; omega
              intro v' w1 ho hg _
              have N := hide (HR.out.grown (m := markL E c) (v' := v') (by rw [HM.out]; rw [bs_size] at ho; exact ho) hg)
              obtain ⟨av', cap', rfl⟩ := own_shapeB ho
              clear ho hg
              go_wp2
              go_roundw
              case rel => exact ⟨k + 1, hlt, by go_num, by rw [HS.out]; exact N.out⟩
              case measure => simp [intOf]; omega
            · have n68 : ((x : Int) == 68) = false := by simp; omega
              by_cases hx : x = 88
              · have HM := hide (show markL E c = E.text.data.toList by rw [mark_nat, ← HC.out]; rw [if_neg (by omega)]; rw [if_neg (by omega)]; rw [if_neg (by omega)]; rw [if_neg (by omega)]; rw [if_pos hx])
                clear HC
                subst hx
                have kf := HR.out.cev.text
                go_wp2_with (at_builtin; refine Lib.wpList_append_own_string _ rfl (.tmp 48) (.tmp 50) 68 9 rfl (w.heap.size + 1) 5 i0 Tryd.underlying68 Tryd.underlying9 hi0 hz0 hz1 hz2 _ l.length (Lib.byteCells l) rfl HR.out.own E.text rfl ?b1 ?b2 ?b3 ?_)
                case b1 => unfold maxLen; have h1 := HB.out; have h2 := HM.out; have h3 := size_len (E.text); rw [h2] at h1; omega
                case b2 => have h1 := HB.out; have h2 := HM.out; have h3 := size_len (E.text); rw [h2] at h1; omega
                case b3 => have := HR.out.size; omega
                intro v' w1 ho hg _
                have N := hide (HR.out.grown (m := markL E c) (v' := v') (by rw [HM.out]; rw [size_len]; exact ho) hg)
                obtain ⟨av', cap', rfl⟩ := own_shapeB ho
                clear ho hg
                go_wp2
                go_roundw
                case rel => exact ⟨k + 1, hlt, by go_num, by rw [HS.out]; exact N.out⟩
                case measure => simp [intOf]; omega
              · have n88 : ((x : Int) == 88) = false := by simp; omega
                by_cases hx : x = 78
                · have HM := hide (show markL E c = Lib.itoa E.num by rw [mark_nat, ← HC.out]; rw [if_neg (by omega)]; rw [if_neg (by omega)]; rw [if_neg (by omega)]; rw [if_neg (by omega)]; rw [if_neg (by omega)]; rw [if_pos hx])
                  clear HC
                  subst hx
                  have kf := HR.out.cev.num
                  have hlen := HL.out
                  go_wp2_with fail
                  refine (HAi.out wr (w.heap.size + 1) l.length E.num _ (Lib.byteCells l) HR.out.low (by omega) HN.out.1 HN.out.2 HR.out.own HR.out.size (by have h1 := HP.out; omega)).mono ?_
                  rintro e w1 ⟨v', rfl, ho, hb⟩
                  have N := hide (HR.out.on (m := markL E c) (v' := v') (by rw [HM.out]; exact ho) hb)
                  obtain ⟨av', cap', rfl⟩ := own_shapeB ho
                  clear ho hb
                  go_wp2
                  go_roundw
                  case rel => exact ⟨k + 1, hlt, by go_num, by rw [HS.out]; exact N.out⟩
                  case measure => simp [intOf]; omega
                · have n78 : ((x : Int) == 78) = false := by simp; omega
                  have HM := hide (show markL E c = [c] by rw [mark_nat, ← HC.out]; rw [if_neg (by omega)]; rw [if_neg (by omega)]; rw [if_neg (by omega)]; rw [if_neg (by omega)]; rw [if_neg (by omega)]; rw [if_neg (by omega)])
                  have hcx := hide (show Value.int .u8 (x : Int) = Value.int .u8 (c.toNat : Int) by rw [HC.out])
                  go_wp2_with (at_builtin; refine wpList_append_own_at _ rfl (.tmp 15) (.tmp 19) 68 rfl (w.heap.size + 1) 5 i0 (.int .u8 0) 1 1 Tryd.underlying68 hi0 hz0 hz1 hz2 rfl (by decide) _ l.length (Lib.byteCells l) rfl (HR.out.own.alloc _) ⟨wr.heap.size, 0, none⟩ 1 1 [.int .u8 (x : Int)] rfl ?a1 ?a2 ?a3 ?a4 ?a5 ?a6 ?_)
                  case a1 => rfl
                  case a2 =>
                    intro j u hj
                    match j, hj with
                    | 0, hj => simp at hj; subst hj; simp [Addr.add]
                  case a3 => intro u hu; simp at hu; subst hu; rfl
                  case a4 => unfold maxLen; have h1 := HP.out; omega
                  case a5 => have h1 := HP.out; omega
                  case a6 => have := HR.out.size; simp; omega
                  intro v' w1 ho hg _ _
                  have N := hide ((HR.out.box _).grown (m := markL E c) (v' := v') (by rw [HM.out]; rw [hcx.out] at ho; exact ho) hg)
                  obtain ⟨av', cap', rfl⟩ := own_shapeB ho
                  clear ho hg
                  go_wp2
                  go_roundw
                  case rel => exact ⟨k + 1, hlt, by go_num, by rw [HS.out]; exact N.out⟩
                  case measure => simp [intOf]; omega
    · have e : fillL E (f.data.toList.take k) = fillL E f.data.toList := by rw [List.take_of_length_le (by rw [len_of]; omega)]
      rw [e] at R
      have hcv := conv_own R.own
      have HR := hide R
      clear R e
      obtain ⟨av, cap, rfl⟩ := own_shapeB HR.out.own
      go_wp2
      go_ret
      exact ⟨rfl, HR.out.low⟩
end Go.Proofs.YtaifjndkgfffpaaDoor
/-
  Tell: its contract.
-/
namespace Go.Proofs.YtaifjndkgfffpaaDoor
open Go.RowKit
set_option linter.unusedVariables false

def tellA : Option (List UInt8) → Value
  | none => .tuple #[.string ⟨#[]⟩, .bool false]
  | some l => .tuple #[.string (bs l), .bool true]

theorem Cev.setWho {w : World} {b : Nat} {E : Ev} (h : Cev w b E) (s : ByteArray) : Cev (w.setCell ⟨b, 6, none⟩ (.string s)) b { E with who := s } := by
  unfold Cev at h ⊢
  rw [setCell_eq_setRow w b 6 _ _ _ _ h, setRow_heap w b _ _ _ _ h]; rfl
theorem Cev.setWhom {w : World} {b : Nat} {E : Ev} (h : Cev w b E) (s : ByteArray) : Cev (w.setCell ⟨b, 7, none⟩ (.string s)) b { E with whom := s } := by
  unfold Cev at h ⊢
  rw [setCell_eq_setRow w b 7 _ _ _ _ h, setRow_heap w b _ _ _ _ h]; rfl
/-- The whole event is read out of the block that was made last. -/
theorem wl_event_new {ops : Array Oper} {rest : List Oper} {op : Oper} {a : Act} {w W : World} {Q : Exit → Act → World → Prop} (x : Operand) (ho : op.op = .load 52 x) (hw : Region.wanted op (yielded ops a.tmps) = true) (c : Array Value) (hW : W = w.alloc (.cells c 52)) (E : Ev)
    (hx : a.eval x = .pointer (some ⟨w.heap.size, 0, none⟩)) (hc : c = E.cells) (h : wpList Tryd.prog ops Q rest (a.put op.dst (.agg E.cells)) W) : wpList Tryd.prog ops Q (op :: rest) a W := by
  subst hW hc
  exact wl_event x ho hw w.heap.size E hx (cev_new w E) h
structure TvRel (E : Ev) (w wr : World) : Prop where
  cev : Cev wr w.heap.size E
  low : Below w.heap.size w wr
theorem tv_start (E : Ev) (w : World) : TvRel E w (w.alloc (.cells E.cells 52)) := ⟨cev_new w E, (Below.refl _ _).alloc (Nat.le_refl _) _⟩

section
variable {E : Ev} {b : Int} {k : Nat}
theorem tell_none (h : amg b 6 = false ∨ bitB (E.by' b.toNat) 1 = false ∨ formOf E b.toNat = []) : tellL E b = none := by
  unfold tellL
  rw [if_neg]
  rintro ⟨h1, h2, h3⟩
  rcases h with h | h | h
  · rw [h] at h1; simp at h1
  · rw [h] at h2; simp at h2
  · exact h3 h
theorem tell_some (h1 : amg (k : Int) 6 = true) (h2 : bitB (E.by' k) 1 = true) (h3 : formOf E k ≠ []) : tellL E (k : Int) = some (fillL (asKnown E k) (formOf E k)) := by
  unfold tellL
  rw [if_pos ⟨h1, h2, h3⟩]; rfl
end

set_option maxRecDepth 100000 in
set_option maxHeartbeats 4000000 in
theorem tell_any (E : Ev) (b : Int) (w : World) (hv : Vb w) (hai : Ai w) (hn0 : -9223372036854775808 ≤ E.num) (hn1 : E.num ≤ 9223372036854775807) (hs : ∀ k : Nat, k < 6 → (fillL (asKnown E k) (formOf E k)).length + 21 ≤ 140737488355328) :
    Calls Tryd.prog 20 #[.agg E.cells, .int .i64 b] w fun e w' => e = .returned (tellA (tellL E b)) ∧ Below w.heap.size w w' := by
  have P0 := hide (tv_start E w)
  cases hb6 : amg b 6 with
  | false =>
    have HT := hide (tell_none (E := E) (.inl hb6))
    have HB6 := hide hb6
    clear hb6 hs
    go_enter Tryd.func20, Tryd.ntmps20
    go_wp2_with fail
    refine (sbeing_any b _).mono ?_
    rintro e w9 ⟨rfl, hw⟩
    rw [hw, HB6.out]
    clear hw w9
    go_wp2
    go_ret2
    exact ⟨ret_any (by rw [HT.out]; rfl), P0.out.low⟩
  | true =>
    obtain ⟨b0, b6⟩ := amg_pos hb6
    obtain ⟨k, rfl⟩ := Int.eq_ofNat_of_zero_le b0
    have HB6 := hide hb6
    clear hb6
    have hk6 : k < 6 := by omega
    have kb := P0.out.cev.by' k hk6
    have kk := P0.out.cev.kind
    have ka := P0.out.cev.actor
    have ko := P0.out.cev.othr
    cases h1 : bitB (E.by' k) 1 with
    | false =>
      have HT := hide (tell_none (E := E) (b := (k : Int)) (.inr (.inl h1)))
      have f1 : (bits .and .i64 (E.by' k) 1 == 0) = true := by unfold bitB at h1; simpa using h1
      clear h1 hs
      go_enter Tryd.func20, Tryd.ntmps20
      go_wp2_with fail
      refine (sbeing_any (k : Int) _).mono ?_
      rintro e w9 ⟨rfl, hw⟩
      rw [hw, HB6.out]
      clear hw w9
      go_wp2
      go_ret2
      exact ⟨ret_any (by rw [HT.out]; rfl), P0.out.low⟩
    | true =>
      have f1 : (bits .and .i64 (E.by' k) 1 == 0) = false := by unfold bitB at h1; simpa using h1
      have HL1 := hs k (by omega)
      have HT0 : Hid (formOf E k ≠ [] → tellL E (k : Int) = some (fillL (asKnown E k) (formOf E k))) := fun h => tell_some HB6.out h1 h
      have HT1 : Hid (formOf E k = [] → tellL E (k : Int) = none) := fun h => tell_none (.inr (.inr h))
      have hfl := form_len E.kind
      have HV := hide hv
      have HAi := hide hai
      have hbt : ∀ l : List UInt8, (bs l).toList = l := fun l => by rw [Lib.toList_data, bs_data]
      clear hs h1 hv hai
      by_cases hN : (k : Int) = E.actor
      · have fN : ((k : Int) != E.actor) = false := by simp [hN]
        have HF := hide (show formOf E k = formA E.kind by unfold formOf; rw [if_pos hN])
        clear hN
        rw [HF.out] at HL1 HT0 HT1
        have C0 := fun (W : World) (hv : Vb W) (hai : Ai W) => filled_any (bs (formA E.kind)) (asKnown E k) W hv hai hn0 hn1 (by rw [bs_size]; omega) (by rw [bs_data]; exact HL1)
        rw [bs_data] at C0
        have C := hide C0
        clear C0 HL1 hfl HF
        have FC := hide (fun W => forms_any E.kind W)
        generalize formO E.kind = G at *
        generalize formA E.kind = F at *
        cases hF : F.isEmpty with
        | true =>
          have HT := hide (HT1.out (List.isEmpty_iff.1 hF))
          go_enter Tryd.func20, Tryd.ntmps20
          go_wp2_with fail
          refine (sbeing_any (k : Int) _).mono ?_
          rintro e w9 ⟨rfl, hw⟩
          rw [hw, HB6.out]
          clear hw w9
          go_wp2_with fail
          refine (FC.out _).mono ?_
          rintro e w9 ⟨rfl, hw⟩
          rw [hw]
          clear hw w9
          go_wp2
          go_ret2
          exact ⟨ret_any (by rw [HT.out]; rfl), P0.out.low⟩
        | false =>
          have HT := hide (HT0.out (fun h => by rw [h] at hF; simp at hF))
          cases hA : bitB (E.by' k) 2 with
          | false =>
            have fA : (bits .and .i64 (E.by' k) 2 != 0) = false := hA
            cases hB : bitB (E.by' k) 4 with
            | false =>
              have fB : (bits .and .i64 (E.by' k) 4 != 0) = false := hB
              by_cases hO : (k : Int) = E.other
              · have fO : ((k : Int) == E.other) = true := by simp [hO]
                have HO := hide hO
                clear hO
                have HK := hide (show asKnown E k = { E with who := E.who, whom := bs youL } by unfold asKnown; rw [if_neg (by rw [hA]; simp), if_pos HO.out])
                go_enter Tryd.func20, Tryd.ntmps20
                go_wp2_with fail
                refine (sbeing_any (k : Int) _).mono ?_
                rintro e w9 ⟨rfl, hw⟩
                rw [hw, HB6.out]
                clear hw w9
                go_wp2_with fail
                refine (FC.out _).mono ?_
                rintro e w9 ⟨rfl, hw⟩
                rw [hw]
                clear hw w9
                go_wp2_with (refine wl_event_new (.tmp 2) rfl rfl _ rfl (asKnown E k) rfl (by rw [HK.out] <;> rfl) ?_)
                refine (C.out _ (HV.out.alloc _) (HAi.out.below ((Below.refl _ _).alloc (Nat.le_refl _) _))).mono ?_
                rintro e w9 ⟨rfl, hb⟩
                have HZ := hide (((Below.refl w.heap.size w).alloc (Nat.le_refl _) _).trans (hb.mono (by simp)))
                clear hb
                go_wp2
                go_ret2
                exact ⟨ret_any (by rw [HT.out]; rfl), HZ.out⟩
              · have fO : ((k : Int) == E.other) = false := by simp [hO]
                have HO := hide hO
                clear hO
                have HK := hide (show asKnown E k = { E with who := E.who, whom := E.whom } by unfold asKnown; rw [if_neg (by rw [hA]; simp), if_neg HO.out, if_neg (by rw [hB]; simp)])
                go_enter Tryd.func20, Tryd.ntmps20
                go_wp2_with fail
                refine (sbeing_any (k : Int) _).mono ?_
                rintro e w9 ⟨rfl, hw⟩
                rw [hw, HB6.out]
                clear hw w9
                go_wp2_with fail
                refine (FC.out _).mono ?_
                rintro e w9 ⟨rfl, hw⟩
                rw [hw]
                clear hw w9
                go_wp2_with (refine wl_event_new (.tmp 2) rfl rfl _ rfl (asKnown E k) rfl (by rw [HK.out] <;> rfl) ?_)
                refine (C.out _ (HV.out.alloc _) (HAi.out.below ((Below.refl _ _).alloc (Nat.le_refl _) _))).mono ?_
                rintro e w9 ⟨rfl, hb⟩
                have HZ := hide (((Below.refl w.heap.size w).alloc (Nat.le_refl _) _).trans (hb.mono (by simp)))
                clear hb
                go_wp2
                go_ret2
                exact ⟨ret_any (by rw [HT.out]; rfl), HZ.out⟩
            | true =>
              have fB : (bits .and .i64 (E.by' k) 4 != 0) = true := hB
              by_cases hO : (k : Int) = E.other
              · have fO : ((k : Int) == E.other) = true := by simp [hO]
                have HO := hide hO
                clear hO
                have xo : (w.alloc (.cells (E.cells.setIfInBounds 7 (Value.string ⟨#[115, 111, 109, 101, 111, 110, 101]⟩)) 52)).cell? ⟨w.heap.size, 3, none⟩ = some (.int .i64 E.other) := (cev_new w { E with whom := ⟨#[115, 111, 109, 101, 111, 110, 101]⟩ }).othr
                have HK := hide (show asKnown E k = { E with who := E.who, whom := bs youL } by unfold asKnown; rw [if_neg (by rw [hA]; simp), if_pos HO.out])
                go_enter Tryd.func20, Tryd.ntmps20
                go_wp2_with fail
                refine (sbeing_any (k : Int) _).mono ?_
                rintro e w9 ⟨rfl, hw⟩
                rw [hw, HB6.out]
                clear hw w9
                go_wp2_with fail
                refine (FC.out _).mono ?_
                rintro e w9 ⟨rfl, hw⟩
                rw [hw]
                clear hw w9
                go_wp2_with (refine wl_event_new (.tmp 2) rfl rfl _ rfl (asKnown E k) rfl (by rw [HK.out] <;> rfl) ?_)
                refine (C.out _ (HV.out.alloc _) (HAi.out.below ((Below.refl _ _).alloc (Nat.le_refl _) _))).mono ?_
                rintro e w9 ⟨rfl, hb⟩
                have HZ := hide (((Below.refl w.heap.size w).alloc (Nat.le_refl _) _).trans (hb.mono (by simp)))
                clear hb
                go_wp2
                go_ret2
                exact ⟨ret_any (by rw [HT.out]; rfl), HZ.out⟩
              · have fO : ((k : Int) == E.other) = false := by simp [hO]
                have HO := hide hO
                clear hO
                have xo : (w.alloc (.cells (E.cells.setIfInBounds 7 (Value.string ⟨#[115, 111, 109, 101, 111, 110, 101]⟩)) 52)).cell? ⟨w.heap.size, 3, none⟩ = some (.int .i64 E.other) := (cev_new w { E with whom := ⟨#[115, 111, 109, 101, 111, 110, 101]⟩ }).othr
                have HK := hide (show asKnown E k = { E with who := E.who, whom := bs someoneL } by unfold asKnown; rw [if_neg (by rw [hA]; simp), if_neg HO.out, if_pos hB])
                go_enter Tryd.func20, Tryd.ntmps20
                go_wp2_with fail
                refine (sbeing_any (k : Int) _).mono ?_
                rintro e w9 ⟨rfl, hw⟩
                rw [hw, HB6.out]
                clear hw w9
                go_wp2_with fail
                refine (FC.out _).mono ?_
                rintro e w9 ⟨rfl, hw⟩
                rw [hw]
                clear hw w9
                go_wp2_with (refine wl_event_new (.tmp 2) rfl rfl _ rfl (asKnown E k) rfl (by rw [HK.out] <;> rfl) ?_)
                refine (C.out _ (HV.out.alloc _) (HAi.out.below ((Below.refl _ _).alloc (Nat.le_refl _) _))).mono ?_
                rintro e w9 ⟨rfl, hb⟩
                have HZ := hide (((Below.refl w.heap.size w).alloc (Nat.le_refl _) _).trans (hb.mono (by simp)))
                clear hb
                go_wp2
                go_ret2
                exact ⟨ret_any (by rw [HT.out]; rfl), HZ.out⟩
          | true =>
            have fA : (bits .and .i64 (E.by' k) 2 != 0) = true := hA
            cases hB : bitB (E.by' k) 4 with
            | false =>
              have fB : (bits .and .i64 (E.by' k) 4 != 0) = false := hB
              by_cases hO : (k : Int) = E.other
              · have fO : ((k : Int) == E.other) = true := by simp [hO]
                have HO := hide hO
                clear hO
                have xa : (w.alloc (.cells (E.cells.setIfInBounds 6 (Value.string ⟨#[115, 111, 109, 101, 111, 110, 101]⟩)) 52)).cell? ⟨w.heap.size, 10 + k, none⟩ = some (.int .i64 (E.by' k)) := (cev_new w { E with who := ⟨#[115, 111, 109, 101, 111, 110, 101]⟩ }).by' k hk6
                have xo : (w.alloc (.cells (E.cells.setIfInBounds 6 (Value.string ⟨#[115, 111, 109, 101, 111, 110, 101]⟩)) 52)).cell? ⟨w.heap.size, 3, none⟩ = some (.int .i64 E.other) := (cev_new w { E with who := ⟨#[115, 111, 109, 101, 111, 110, 101]⟩ }).othr
                have HK := hide (show asKnown E k = { E with who := bs someoneL, whom := bs youL } by unfold asKnown; rw [if_pos hA, if_pos HO.out])
                go_enter Tryd.func20, Tryd.ntmps20
                go_wp2_with fail
                refine (sbeing_any (k : Int) _).mono ?_
                rintro e w9 ⟨rfl, hw⟩
                rw [hw, HB6.out]
                clear hw w9
                go_wp2_with fail
                refine (FC.out _).mono ?_
                rintro e w9 ⟨rfl, hw⟩
                rw [hw]
                clear hw w9
                go_wp2_with (refine wl_event_new (.tmp 2) rfl rfl _ rfl (asKnown E k) rfl (by rw [HK.out] <;> rfl) ?_)
                refine (C.out _ (HV.out.alloc _) (HAi.out.below ((Below.refl _ _).alloc (Nat.le_refl _) _))).mono ?_
                rintro e w9 ⟨rfl, hb⟩
                have HZ := hide (((Below.refl w.heap.size w).alloc (Nat.le_refl _) _).trans (hb.mono (by simp)))
                clear hb
                go_wp2
                go_ret2
                exact ⟨ret_any (by rw [HT.out]; rfl), HZ.out⟩
              · have fO : ((k : Int) == E.other) = false := by simp [hO]
                have HO := hide hO
                clear hO
                have xa : (w.alloc (.cells (E.cells.setIfInBounds 6 (Value.string ⟨#[115, 111, 109, 101, 111, 110, 101]⟩)) 52)).cell? ⟨w.heap.size, 10 + k, none⟩ = some (.int .i64 (E.by' k)) := (cev_new w { E with who := ⟨#[115, 111, 109, 101, 111, 110, 101]⟩ }).by' k hk6
                have xo : (w.alloc (.cells (E.cells.setIfInBounds 6 (Value.string ⟨#[115, 111, 109, 101, 111, 110, 101]⟩)) 52)).cell? ⟨w.heap.size, 3, none⟩ = some (.int .i64 E.other) := (cev_new w { E with who := ⟨#[115, 111, 109, 101, 111, 110, 101]⟩ }).othr
                have HK := hide (show asKnown E k = { E with who := bs someoneL, whom := E.whom } by unfold asKnown; rw [if_pos hA, if_neg HO.out, if_neg (by rw [hB]; simp)])
                go_enter Tryd.func20, Tryd.ntmps20
                go_wp2_with fail
                refine (sbeing_any (k : Int) _).mono ?_
                rintro e w9 ⟨rfl, hw⟩
                rw [hw, HB6.out]
                clear hw w9
                go_wp2_with fail
                refine (FC.out _).mono ?_
                rintro e w9 ⟨rfl, hw⟩
                rw [hw]
                clear hw w9
                go_wp2_with (refine wl_event_new (.tmp 2) rfl rfl _ rfl (asKnown E k) rfl (by rw [HK.out] <;> rfl) ?_)
                refine (C.out _ (HV.out.alloc _) (HAi.out.below ((Below.refl _ _).alloc (Nat.le_refl _) _))).mono ?_
                rintro e w9 ⟨rfl, hb⟩
                have HZ := hide (((Below.refl w.heap.size w).alloc (Nat.le_refl _) _).trans (hb.mono (by simp)))
                clear hb
                go_wp2
                go_ret2
                exact ⟨ret_any (by rw [HT.out]; rfl), HZ.out⟩
            | true =>
              have fB : (bits .and .i64 (E.by' k) 4 != 0) = true := hB
              by_cases hO : (k : Int) = E.other
              · have fO : ((k : Int) == E.other) = true := by simp [hO]
                have HO := hide hO
                clear hO
                have xa : (w.alloc (.cells (E.cells.setIfInBounds 6 (Value.string ⟨#[115, 111, 109, 101, 111, 110, 101]⟩)) 52)).cell? ⟨w.heap.size, 10 + k, none⟩ = some (.int .i64 (E.by' k)) := (cev_new w { E with who := ⟨#[115, 111, 109, 101, 111, 110, 101]⟩ }).by' k hk6
                have xo : (w.alloc (.cells ((E.cells.setIfInBounds 6 (Value.string ⟨#[115, 111, 109, 101, 111, 110, 101]⟩)).setIfInBounds 7 (Value.string ⟨#[115, 111, 109, 101, 111, 110, 101]⟩)) 52)).cell? ⟨w.heap.size, 3, none⟩ = some (.int .i64 E.other) := (cev_new w { E with who := ⟨#[115, 111, 109, 101, 111, 110, 101]⟩, whom := ⟨#[115, 111, 109, 101, 111, 110, 101]⟩ }).othr
                have HK := hide (show asKnown E k = { E with who := bs someoneL, whom := bs youL } by unfold asKnown; rw [if_pos hA, if_pos HO.out])
                go_enter Tryd.func20, Tryd.ntmps20
                go_wp2_with fail
                refine (sbeing_any (k : Int) _).mono ?_
                rintro e w9 ⟨rfl, hw⟩
                rw [hw, HB6.out]
                clear hw w9
                go_wp2_with fail
                refine (FC.out _).mono ?_
                rintro e w9 ⟨rfl, hw⟩
                rw [hw]
                clear hw w9
                go_wp2_with (refine wl_event_new (.tmp 2) rfl rfl _ rfl (asKnown E k) rfl (by rw [HK.out] <;> rfl) ?_)
                refine (C.out _ (HV.out.alloc _) (HAi.out.below ((Below.refl _ _).alloc (Nat.le_refl _) _))).mono ?_
                rintro e w9 ⟨rfl, hb⟩
                have HZ := hide (((Below.refl w.heap.size w).alloc (Nat.le_refl _) _).trans (hb.mono (by simp)))
                clear hb
                go_wp2
                go_ret2
                exact ⟨ret_any (by rw [HT.out]; rfl), HZ.out⟩
              · have fO : ((k : Int) == E.other) = false := by simp [hO]
                have HO := hide hO
                clear hO
                have xa : (w.alloc (.cells (E.cells.setIfInBounds 6 (Value.string ⟨#[115, 111, 109, 101, 111, 110, 101]⟩)) 52)).cell? ⟨w.heap.size, 10 + k, none⟩ = some (.int .i64 (E.by' k)) := (cev_new w { E with who := ⟨#[115, 111, 109, 101, 111, 110, 101]⟩ }).by' k hk6
                have xo : (w.alloc (.cells ((E.cells.setIfInBounds 6 (Value.string ⟨#[115, 111, 109, 101, 111, 110, 101]⟩)).setIfInBounds 7 (Value.string ⟨#[115, 111, 109, 101, 111, 110, 101]⟩)) 52)).cell? ⟨w.heap.size, 3, none⟩ = some (.int .i64 E.other) := (cev_new w { E with who := ⟨#[115, 111, 109, 101, 111, 110, 101]⟩, whom := ⟨#[115, 111, 109, 101, 111, 110, 101]⟩ }).othr
                have HK := hide (show asKnown E k = { E with who := bs someoneL, whom := bs someoneL } by unfold asKnown; rw [if_pos hA, if_neg HO.out, if_pos hB])
                go_enter Tryd.func20, Tryd.ntmps20
                go_wp2_with fail
                refine (sbeing_any (k : Int) _).mono ?_
                rintro e w9 ⟨rfl, hw⟩
                rw [hw, HB6.out]
                clear hw w9
                go_wp2_with fail
                refine (FC.out _).mono ?_
                rintro e w9 ⟨rfl, hw⟩
                rw [hw]
                clear hw w9
                go_wp2_with (refine wl_event_new (.tmp 2) rfl rfl _ rfl (asKnown E k) rfl (by rw [HK.out] <;> rfl) ?_)
                refine (C.out _ (HV.out.alloc _) (HAi.out.below ((Below.refl _ _).alloc (Nat.le_refl _) _))).mono ?_
                rintro e w9 ⟨rfl, hb⟩
                have HZ := hide (((Below.refl w.heap.size w).alloc (Nat.le_refl _) _).trans (hb.mono (by simp)))
                clear hb
                go_wp2
                go_ret2
                exact ⟨ret_any (by rw [HT.out]; rfl), HZ.out⟩
      · have fN : ((k : Int) != E.actor) = true := by simp [hN]
        have HF := hide (show formOf E k = formO E.kind by unfold formOf; rw [if_neg hN])
        clear hN
        rw [HF.out] at HL1 HT0 HT1
        have C0 := fun (W : World) (hv : Vb W) (hai : Ai W) => filled_any (bs (formO E.kind)) (asKnown E k) W hv hai hn0 hn1 (by rw [bs_size]; omega) (by rw [bs_data]; exact HL1)
        rw [bs_data] at C0
        have C := hide C0
        clear C0 HL1 hfl HF
        have FC := hide (fun W => forms_any E.kind W)
        generalize formA E.kind = G at *
        generalize formO E.kind = F at *
        cases hF : F.isEmpty with
        | true =>
          have HT := hide (HT1.out (List.isEmpty_iff.1 hF))
          go_enter Tryd.func20, Tryd.ntmps20
          go_wp2_with fail
          refine (sbeing_any (k : Int) _).mono ?_
          rintro e w9 ⟨rfl, hw⟩
          rw [hw, HB6.out]
          clear hw w9
          go_wp2_with fail
          refine (FC.out _).mono ?_
          rintro e w9 ⟨rfl, hw⟩
          rw [hw]
          clear hw w9
          go_wp2
          go_ret2
          exact ⟨ret_any (by rw [HT.out]; rfl), P0.out.low⟩
        | false =>
          have HT := hide (HT0.out (fun h => by rw [h] at hF; simp at hF))
          cases hA : bitB (E.by' k) 2 with
          | false =>
            have fA : (bits .and .i64 (E.by' k) 2 != 0) = false := hA
            cases hB : bitB (E.by' k) 4 with
            | false =>
              have fB : (bits .and .i64 (E.by' k) 4 != 0) = false := hB
              by_cases hO : (k : Int) = E.other
              · have fO : ((k : Int) == E.other) = true := by simp [hO]
                have HO := hide hO
                clear hO
                have HK := hide (show asKnown E k = { E with who := E.who, whom := bs youL } by unfold asKnown; rw [if_neg (by rw [hA]; simp), if_pos HO.out])
                go_enter Tryd.func20, Tryd.ntmps20
                go_wp2_with fail
                refine (sbeing_any (k : Int) _).mono ?_
                rintro e w9 ⟨rfl, hw⟩
                rw [hw, HB6.out]
                clear hw w9
                go_wp2_with fail
                refine (FC.out _).mono ?_
                rintro e w9 ⟨rfl, hw⟩
                rw [hw]
                clear hw w9
                go_wp2_with (refine wl_event_new (.tmp 2) rfl rfl _ rfl (asKnown E k) rfl (by rw [HK.out] <;> rfl) ?_)
                refine (C.out _ (HV.out.alloc _) (HAi.out.below ((Below.refl _ _).alloc (Nat.le_refl _) _))).mono ?_
                rintro e w9 ⟨rfl, hb⟩
                have HZ := hide (((Below.refl w.heap.size w).alloc (Nat.le_refl _) _).trans (hb.mono (by simp)))
                clear hb
                go_wp2
                go_ret2
                exact ⟨ret_any (by rw [HT.out]; rfl), HZ.out⟩
              · have fO : ((k : Int) == E.other) = false := by simp [hO]
                have HO := hide hO
                clear hO
                have HK := hide (show asKnown E k = { E with who := E.who, whom := E.whom } by unfold asKnown; rw [if_neg (by rw [hA]; simp), if_neg HO.out, if_neg (by rw [hB]; simp)])
                go_enter Tryd.func20, Tryd.ntmps20
                go_wp2_with fail
                refine (sbeing_any (k : Int) _).mono ?_
                rintro e w9 ⟨rfl, hw⟩
                rw [hw, HB6.out]
                clear hw w9
                go_wp2_with fail
                refine (FC.out _).mono ?_
                rintro e w9 ⟨rfl, hw⟩
                rw [hw]
                clear hw w9
                go_wp2_with (refine wl_event_new (.tmp 2) rfl rfl _ rfl (asKnown E k) rfl (by rw [HK.out] <;> rfl) ?_)
                refine (C.out _ (HV.out.alloc _) (HAi.out.below ((Below.refl _ _).alloc (Nat.le_refl _) _))).mono ?_
                rintro e w9 ⟨rfl, hb⟩
                have HZ := hide (((Below.refl w.heap.size w).alloc (Nat.le_refl _) _).trans (hb.mono (by simp)))
                clear hb
                go_wp2
                go_ret2
                exact ⟨ret_any (by rw [HT.out]; rfl), HZ.out⟩
            | true =>
              have fB : (bits .and .i64 (E.by' k) 4 != 0) = true := hB
              by_cases hO : (k : Int) = E.other
              · have fO : ((k : Int) == E.other) = true := by simp [hO]
                have HO := hide hO
                clear hO
                have xo : (w.alloc (.cells (E.cells.setIfInBounds 7 (Value.string ⟨#[115, 111, 109, 101, 111, 110, 101]⟩)) 52)).cell? ⟨w.heap.size, 3, none⟩ = some (.int .i64 E.other) := (cev_new w { E with whom := ⟨#[115, 111, 109, 101, 111, 110, 101]⟩ }).othr
                have HK := hide (show asKnown E k = { E with who := E.who, whom := bs youL } by unfold asKnown; rw [if_neg (by rw [hA]; simp), if_pos HO.out])
                go_enter Tryd.func20, Tryd.ntmps20
                go_wp2_with fail
                refine (sbeing_any (k : Int) _).mono ?_
                rintro e w9 ⟨rfl, hw⟩
                rw [hw, HB6.out]
                clear hw w9
                go_wp2_with fail
                refine (FC.out _).mono ?_
                rintro e w9 ⟨rfl, hw⟩
                rw [hw]
                clear hw w9
                go_wp2_with (refine wl_event_new (.tmp 2) rfl rfl _ rfl (asKnown E k) rfl (by rw [HK.out] <;> rfl) ?_)
                refine (C.out _ (HV.out.alloc _) (HAi.out.below ((Below.refl _ _).alloc (Nat.le_refl _) _))).mono ?_
                rintro e w9 ⟨rfl, hb⟩
                have HZ := hide (((Below.refl w.heap.size w).alloc (Nat.le_refl _) _).trans (hb.mono (by simp)))
                clear hb
                go_wp2
                go_ret2
                exact ⟨ret_any (by rw [HT.out]; rfl), HZ.out⟩
              · have fO : ((k : Int) == E.other) = false := by simp [hO]
                have HO := hide hO
                clear hO
                have xo : (w.alloc (.cells (E.cells.setIfInBounds 7 (Value.string ⟨#[115, 111, 109, 101, 111, 110, 101]⟩)) 52)).cell? ⟨w.heap.size, 3, none⟩ = some (.int .i64 E.other) := (cev_new w { E with whom := ⟨#[115, 111, 109, 101, 111, 110, 101]⟩ }).othr
                have HK := hide (show asKnown E k = { E with who := E.who, whom := bs someoneL } by unfold asKnown; rw [if_neg (by rw [hA]; simp), if_neg HO.out, if_pos hB])
                go_enter Tryd.func20, Tryd.ntmps20
                go_wp2_with fail
                refine (sbeing_any (k : Int) _).mono ?_
                rintro e w9 ⟨rfl, hw⟩
                rw [hw, HB6.out]
                clear hw w9
                go_wp2_with fail
                refine (FC.out _).mono ?_
                rintro e w9 ⟨rfl, hw⟩
                rw [hw]
                clear hw w9
                go_wp2_with (refine wl_event_new (.tmp 2) rfl rfl _ rfl (asKnown E k) rfl (by rw [HK.out] <;> rfl) ?_)
                refine (C.out _ (HV.out.alloc _) (HAi.out.below ((Below.refl _ _).alloc (Nat.le_refl _) _))).mono ?_
                rintro e w9 ⟨rfl, hb⟩
                have HZ := hide (((Below.refl w.heap.size w).alloc (Nat.le_refl _) _).trans (hb.mono (by simp)))
                clear hb
                go_wp2
                go_ret2
                exact ⟨ret_any (by rw [HT.out]; rfl), HZ.out⟩
          | true =>
            have fA : (bits .and .i64 (E.by' k) 2 != 0) = true := hA
            cases hB : bitB (E.by' k) 4 with
            | false =>
              have fB : (bits .and .i64 (E.by' k) 4 != 0) = false := hB
              by_cases hO : (k : Int) = E.other
              · have fO : ((k : Int) == E.other) = true := by simp [hO]
                have HO := hide hO
                clear hO
                have xa : (w.alloc (.cells (E.cells.setIfInBounds 6 (Value.string ⟨#[115, 111, 109, 101, 111, 110, 101]⟩)) 52)).cell? ⟨w.heap.size, 10 + k, none⟩ = some (.int .i64 (E.by' k)) := (cev_new w { E with who := ⟨#[115, 111, 109, 101, 111, 110, 101]⟩ }).by' k hk6
                have xo : (w.alloc (.cells (E.cells.setIfInBounds 6 (Value.string ⟨#[115, 111, 109, 101, 111, 110, 101]⟩)) 52)).cell? ⟨w.heap.size, 3, none⟩ = some (.int .i64 E.other) := (cev_new w { E with who := ⟨#[115, 111, 109, 101, 111, 110, 101]⟩ }).othr
                have HK := hide (show asKnown E k = { E with who := bs someoneL, whom := bs youL } by unfold asKnown; rw [if_pos hA, if_pos HO.out])
                go_enter Tryd.func20, Tryd.ntmps20
                go_wp2_with fail
                refine (sbeing_any (k : Int) _).mono ?_
                rintro e w9 ⟨rfl, hw⟩
                rw [hw, HB6.out]
                clear hw w9
                go_wp2_with fail
                refine (FC.out _).mono ?_
                rintro e w9 ⟨rfl, hw⟩
                rw [hw]
                clear hw w9
                go_wp2_with (refine wl_event_new (.tmp 2) rfl rfl _ rfl (asKnown E k) rfl (by rw [HK.out] <;> rfl) ?_)
                refine (C.out _ (HV.out.alloc _) (HAi.out.below ((Below.refl _ _).alloc (Nat.le_refl _) _))).mono ?_
                rintro e w9 ⟨rfl, hb⟩
                have HZ := hide (((Below.refl w.heap.size w).alloc (Nat.le_refl _) _).trans (hb.mono (by simp)))
                clear hb
                go_wp2
                go_ret2
                exact ⟨ret_any (by rw [HT.out]; rfl), HZ.out⟩
              · have fO : ((k : Int) == E.other) = false := by simp [hO]
                have HO := hide hO
                clear hO
                have xa : (w.alloc (.cells (E.cells.setIfInBounds 6 (Value.string ⟨#[115, 111, 109, 101, 111, 110, 101]⟩)) 52)).cell? ⟨w.heap.size, 10 + k, none⟩ = some (.int .i64 (E.by' k)) := (cev_new w { E with who := ⟨#[115, 111, 109, 101, 111, 110, 101]⟩ }).by' k hk6
                have xo : (w.alloc (.cells (E.cells.setIfInBounds 6 (Value.string ⟨#[115, 111, 109, 101, 111, 110, 101]⟩)) 52)).cell? ⟨w.heap.size, 3, none⟩ = some (.int .i64 E.other) := (cev_new w { E with who := ⟨#[115, 111, 109, 101, 111, 110, 101]⟩ }).othr
                have HK := hide (show asKnown E k = { E with who := bs someoneL, whom := E.whom } by unfold asKnown; rw [if_pos hA, if_neg HO.out, if_neg (by rw [hB]; simp)])
                go_enter Tryd.func20, Tryd.ntmps20
                go_wp2_with fail
                refine (sbeing_any (k : Int) _).mono ?_
                rintro e w9 ⟨rfl, hw⟩
                rw [hw, HB6.out]
                clear hw w9
                go_wp2_with fail
                refine (FC.out _).mono ?_
                rintro e w9 ⟨rfl, hw⟩
                rw [hw]
                clear hw w9
                go_wp2_with (refine wl_event_new (.tmp 2) rfl rfl _ rfl (asKnown E k) rfl (by rw [HK.out] <;> rfl) ?_)
                refine (C.out _ (HV.out.alloc _) (HAi.out.below ((Below.refl _ _).alloc (Nat.le_refl _) _))).mono ?_
                rintro e w9 ⟨rfl, hb⟩
                have HZ := hide (((Below.refl w.heap.size w).alloc (Nat.le_refl _) _).trans (hb.mono (by simp)))
                clear hb
                go_wp2
                go_ret2
                exact ⟨ret_any (by rw [HT.out]; rfl), HZ.out⟩
            | true =>
              have fB : (bits .and .i64 (E.by' k) 4 != 0) = true := hB
              by_cases hO : (k : Int) = E.other
              · have fO : ((k : Int) == E.other) = true := by simp [hO]
                have HO := hide hO
                clear hO
                have xa : (w.alloc (.cells (E.cells.setIfInBounds 6 (Value.string ⟨#[115, 111, 109, 101, 111, 110, 101]⟩)) 52)).cell? ⟨w.heap.size, 10 + k, none⟩ = some (.int .i64 (E.by' k)) := (cev_new w { E with who := ⟨#[115, 111, 109, 101, 111, 110, 101]⟩ }).by' k hk6
                have xo : (w.alloc (.cells ((E.cells.setIfInBounds 6 (Value.string ⟨#[115, 111, 109, 101, 111, 110, 101]⟩)).setIfInBounds 7 (Value.string ⟨#[115, 111, 109, 101, 111, 110, 101]⟩)) 52)).cell? ⟨w.heap.size, 3, none⟩ = some (.int .i64 E.other) := (cev_new w { E with who := ⟨#[115, 111, 109, 101, 111, 110, 101]⟩, whom := ⟨#[115, 111, 109, 101, 111, 110, 101]⟩ }).othr
                have HK := hide (show asKnown E k = { E with who := bs someoneL, whom := bs youL } by unfold asKnown; rw [if_pos hA, if_pos HO.out])
                go_enter Tryd.func20, Tryd.ntmps20
                go_wp2_with fail
                refine (sbeing_any (k : Int) _).mono ?_
                rintro e w9 ⟨rfl, hw⟩
                rw [hw, HB6.out]
                clear hw w9
                go_wp2_with fail
                refine (FC.out _).mono ?_
                rintro e w9 ⟨rfl, hw⟩
                rw [hw]
                clear hw w9
                go_wp2_with (refine wl_event_new (.tmp 2) rfl rfl _ rfl (asKnown E k) rfl (by rw [HK.out] <;> rfl) ?_)
                refine (C.out _ (HV.out.alloc _) (HAi.out.below ((Below.refl _ _).alloc (Nat.le_refl _) _))).mono ?_
                rintro e w9 ⟨rfl, hb⟩
                have HZ := hide (((Below.refl w.heap.size w).alloc (Nat.le_refl _) _).trans (hb.mono (by simp)))
                clear hb
                go_wp2
                go_ret2
                exact ⟨ret_any (by rw [HT.out]; rfl), HZ.out⟩
              · have fO : ((k : Int) == E.other) = false := by simp [hO]
                have HO := hide hO
                clear hO
                have xa : (w.alloc (.cells (E.cells.setIfInBounds 6 (Value.string ⟨#[115, 111, 109, 101, 111, 110, 101]⟩)) 52)).cell? ⟨w.heap.size, 10 + k, none⟩ = some (.int .i64 (E.by' k)) := (cev_new w { E with who := ⟨#[115, 111, 109, 101, 111, 110, 101]⟩ }).by' k hk6
                have xo : (w.alloc (.cells ((E.cells.setIfInBounds 6 (Value.string ⟨#[115, 111, 109, 101, 111, 110, 101]⟩)).setIfInBounds 7 (Value.string ⟨#[115, 111, 109, 101, 111, 110, 101]⟩)) 52)).cell? ⟨w.heap.size, 3, none⟩ = some (.int .i64 E.other) := (cev_new w { E with who := ⟨#[115, 111, 109, 101, 111, 110, 101]⟩, whom := ⟨#[115, 111, 109, 101, 111, 110, 101]⟩ }).othr
                have HK := hide (show asKnown E k = { E with who := bs someoneL, whom := bs someoneL } by unfold asKnown; rw [if_pos hA, if_neg HO.out, if_pos hB])
                go_enter Tryd.func20, Tryd.ntmps20
                go_wp2_with fail
                refine (sbeing_any (k : Int) _).mono ?_
                rintro e w9 ⟨rfl, hw⟩
                rw [hw, HB6.out]
                clear hw w9
                go_wp2_with fail
                refine (FC.out _).mono ?_
                rintro e w9 ⟨rfl, hw⟩
                rw [hw]
                clear hw w9
                go_wp2_with (refine wl_event_new (.tmp 2) rfl rfl _ rfl (asKnown E k) rfl (by rw [HK.out] <;> rfl) ?_)
                refine (C.out _ (HV.out.alloc _) (HAi.out.below ((Below.refl _ _).alloc (Nat.le_refl _) _))).mono ?_
                rintro e w9 ⟨rfl, hb⟩
                have HZ := hide (((Below.refl w.heap.size w).alloc (Nat.le_refl _) _).trans (hb.mono (by simp)))
                clear hb
                go_wp2
                go_ret2
                exact ⟨ret_any (by rw [HT.out]; rfl), HZ.out⟩
end Go.Proofs.YtaifjndkgfffpaaDoor
