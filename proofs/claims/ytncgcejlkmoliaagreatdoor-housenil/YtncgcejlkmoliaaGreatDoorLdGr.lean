/-
  Whether a room is good: its contract.
-/
import Derived.Test.YtncgcejlkmoliaaGreatDoorLdGd
import Derived.ChangeKeysEq
namespace Go.Proofs.YtncgcejlkmoliaaGreatDoor
open Go.RowKit
set_option linter.unusedVariables false

/-- Exits that lead somewhere or nowhere; what is shut is an exit. -/
def groom (e : Nat → Int) (s : Nat → Bool) : Bool := (List.range 6).all fun d => (if e d = 0 then !s d else amg (e d - 1) 6)

theorem Tryz.info4 : (Tryz.prog.info? 4).map (fun i => (i.zero, i.size, i.bytes)) = some (some (.bool false), 1, 1) := by kernel_rfl
theorem Tryz.sizeBools : (Tryz.prog.info? 32).map (·.size) = some 6 := by kernel_rfl
theorem Tryz.sizeInts : (Tryz.prog.info? 31).map (·.size) = some 6 := by kernel_rfl

theorem part4 (i : Nat) (x : Bool) (xs : Array Value) (h : xs[i]? = some (.bool x)) (w : World) : (part 4 xs i).run Tryz.prog w = .ok (.bool x) w := by
  have ha : (isAgg 4).run Tryz.prog w = .ok false w := by unfold isAgg; rw [Sem.run_bind, run_underlying Tryz.underlying4 w]; rfl
  simp [part, ha, h]
theorem part3 (i : Nat) (x : Int) (xs : Array Value) (h : xs[i]? = some (.int .i64 x)) (w : World) : (part 3 xs i).run Tryz.prog w = .ok (.int .i64 x) w := by
  have ha : (isAgg 3).run Tryz.prog w = .ok false w := by unfold isAgg; rw [Sem.run_bind, run_underlying Tryz.underlying3 w]; rfl
  simp [part, ha, h]

theorem eq_bools (d : Nat) (f g : Nat → Bool) (xs ys : Array Value) (w : World) : ∀ (is : List Nat), (∀ j ∈ is, xs[j]? = some (.bool (f j))) → (∀ j ∈ is, ys[j]? = some (.bool (g j))) →
    (Op.eqItems (d + 1) 4 1 xs ys is).run Tryz.prog w = .ok (is.all fun j => f j == g j) w := by
  intro is
  induction is with
  | nil => intro _ _; simp [Op.eqItems]
  | cons j is ih =>
    intro hx hy
    have ih := ih (fun k hk => hx k (List.mem_cons_of_mem _ hk)) (fun k hk => hy k (List.mem_cons_of_mem _ hk))
    simp only [Op.eqItems, Sem.run_bind, Nat.mul_one, part4 j _ xs (hx j (List.mem_cons_self ..)), part4 j _ ys (hy j (List.mem_cons_self ..)), Result.andThen_ok, run_equalIn_bool _ d 4 _ _ Tryz.underlying4]
    cases hb : (f j == g j)
    · simp [hb]
    · simp [hb, ih]

def bools (f : Nat → Bool) : Array Value := #[.bool (f 0), .bool (f 1), .bool (f 2), .bool (f 3), .bool (f 4), .bool (f 5)]
def ints (f : Nat → Int) : Array Value := #[.int .i64 (f 0), .int .i64 (f 1), .int .i64 (f 2), .int .i64 (f 3), .int .i64 (f 4), .int .i64 (f 5)]
theorem bools_get (f : Nat → Bool) (j : Nat) (hj : j < 6) : (bools f)[j]? = some (.bool (f j)) := by
  match j, hj with
  | 0, _ => rfl
  | 1, _ => rfl
  | 2, _ => rfl
  | 3, _ => rfl
  | 4, _ => rfl
  | 5, _ => rfl
theorem ints_get (f : Nat → Int) (j : Nat) (hj : j < 6) : (ints f)[j]? = some (.int .i64 (f j)) := by
  match j, hj with
  | 0, _ => rfl
  | 1, _ => rfl
  | 2, _ => rfl
  | 3, _ => rfl
  | 4, _ => rfl
  | 5, _ => rfl

theorem eq38 (f g : Nat → Bool) (w : World) : (Op.equalIn 10000 32 (.agg (bools f)) (.agg (bools g))).run Tryz.prog w = .ok ((List.range 6).all fun j => f j == g j) w := by
  obtain ⟨i0, hi, _, _, _⟩ := info_parts Tryz.info4
  rw [run_equalIn_array (P := Tryz.prog) w 9999 _ _ Tryz.underlying32 hi, Tryz.cells4]
  exact eq_bools 9998 f g _ _ w _ (fun j hj => bools_get f j (by simpa using hj)) (fun j hj => bools_get g j (by simpa using hj))

theorem index37 (f : Nat → Int) (k : Nat) (hk : k < 6) (w : World) : (Instr.index 31 (.agg (ints f)) (.int .i64 (k : Int))).run Tryz.prog w = .ok (.int .i64 (f k)) w := by
  have hk' : (k : Int) < ((6 : Nat) : Int) := by omega
  have h0 : (0 : Int) ≤ (k : Int) := by omega
  obtain ⟨i0, hi, _, hs, _⟩ := info_parts Tryz.info3
  have hsz : (sizeOf 3).run Tryz.prog w = .ok 1 w := by simp [sizeOf, typeInfo, hi, hs]
  simp only [Instr.index, asIntOf, Sem.run_bind, Sem.run_pure, Result.andThen_ok, run_underlying Tryz.underlying31, hk', h0, and_self, if_true, hsz, Int.toNat_natCast, Nat.mul_one]
  exact part3 k _ _ (ints_get f k hk) w

/-- The copy of what is shut, as far as exits were looked at. -/
def mayK (e : Nat → Int) (s : Nat → Bool) (k d : Nat) : Bool := if d < k ∧ e d = 0 then false else s d

theorem bools_set (f : Nat → Bool) (k : Nat) (hk : k < 6) : (bools f).setIfInBounds k (.bool false) = bools (fun d => if d = k then false else f d) := by
  match k, hk with
  | 0, _ => rfl
  | 1, _ => rfl
  | 2, _ => rfl
  | 3, _ => rfl
  | 4, _ => rfl
  | 5, _ => rfl

theorem may_zero {e : Nat → Int} {s : Nat → Bool} {k : Nat} (h : e k = 0) : (fun d => if d = k then false else mayK e s k d) = mayK e s (k + 1) := by
  funext d
  unfold mayK
  by_cases hd : d = k
  · subst hd; rw [if_pos rfl, if_pos ⟨by omega, h⟩]
  · rw [if_neg hd]
    by_cases hc : d < k ∧ e d = 0
    · rw [if_pos hc, if_pos ⟨by omega, hc.2⟩]
    · rw [if_neg hc, if_neg (fun h => hc ⟨by omega, h.2⟩)]
theorem may_not {e : Nat → Int} {s : Nat → Bool} {k : Nat} (h : e k ≠ 0) : mayK e s k = mayK e s (k + 1) := by
  funext d
  unfold mayK
  by_cases hc : d < k ∧ e d = 0
  · rw [if_pos hc, if_pos ⟨by omega, hc.2⟩]
  · rw [if_neg hc, if_neg]
    rintro ⟨h1, h2⟩
    rcases Nat.lt_or_ge d k with h3 | h3
    · exact hc ⟨h3, h2⟩
    · exact h (by rw [← show d = k by omega]; exact h2)

theorem groom_end {e : Nat → Int} {s : Nat → Bool} (h : ∀ d, d < 6 → e d = 0 ∨ amg (e d - 1) 6 = true) : groom e s = (List.range 6).all fun j => s j == mayK e s 6 j := by
  unfold groom
  rw [Bool.eq_iff_iff]
  simp only [List.all_eq_true, List.mem_range]
  refine forall_congr' fun d => ?_
  refine forall_congr' fun hd => ?_
  rcases h d hd with h0 | h0
  · rw [if_pos h0]; unfold mayK; rw [if_pos ⟨hd, h0⟩]; cases s d <;> simp
  · have hne : e d ≠ 0 := by intro e0; rw [e0] at h0; simp [amg] at h0
    rw [if_neg hne]; unfold mayK; rw [if_neg (fun h => hne h.2)]; simp [h0]
theorem groom_bad {e : Nat → Int} {s : Nat → Bool} {d : Nat} (hd : d < 6) (h0 : e d ≠ 0) (h : amg (e d - 1) 6 = false) : groom e s = false := by
  unfold groom
  rw [Bool.eq_false_iff]
  intro hall
  have := List.all_eq_true.1 hall d (by simp [hd])
  rw [if_neg h0, h] at this
  simp at this

def rmc (nm : ByteArray) (dk : Bool) (e : Nat → Int) (s : Nat → Bool) : Array Value := #[.string nm, .bool dk, .int .i64 (e 0), .int .i64 (e 1), .int .i64 (e 2), .int .i64 (e 3), .int .i64 (e 4), .int .i64 (e 5),
  .bool (s 0), .bool (s 1), .bool (s 2), .bool (s 3), .bool (s 4), .bool (s 5)]

/-- A round's head. -/
structure GRel (nm : ByteArray) (dk : Bool) (e : Nat → Int) (s : Nat → Bool) (w : World) (k : Nat) (wr : World) : Prop where
  le : k ≤ 6
  room : wr.heap[w.heap.size]? = some (.cells (rmc nm dk e s) 34 (0, 0))
  may : wr.heap[w.heap.size + 1]? = some (.cells (bools (mayK e s k)) 32 (0, 0))
  low : Below w.heap.size w wr
  ok : ∀ d, d < k → e d = 0 ∨ amg (e d - 1) 6 = true

theorem GRel.start {nm : ByteArray} {dk : Bool} {e : Nat → Int} {s : Nat → Bool} {w : World} :
    GRel nm dk e s w 0 ((w.alloc (.cells (rmc nm dk e s) 34)).alloc (.cells (bools s) 32)) := by
  refine ⟨by omega, ?_, ?_, ((Below.refl _ _).alloc (Nat.le_refl _) _).alloc (by simp) _, fun d h => by omega⟩
  · rw [Below.heap_alloc _ _ _ (by simp)]; exact heap_alloc_new w _
  · have := heap_alloc_new (w.alloc (.cells (rmc nm dk e s) 34)) (.cells (bools s) 32)
    rw [World.size_alloc] at this
    have e0 : mayK e s 0 = s := by funext d; unfold mayK; rw [if_neg (fun h => by omega)]
    rw [e0]; exact this

section
variable {nm : ByteArray} {dk : Bool} {e : Nat → Int} {s : Nat → Bool} {w wr : World} {k : Nat}
theorem GRel.zero (h : GRel nm dk e s w k wr) (hk : k < 6) (h0 : e k = 0) : GRel nm dk e s w (k + 1) (wr.setCell ⟨w.heap.size + 1, k, none⟩ (.bool false)) := by
  refine ⟨by omega, ?_, ?_, h.low.setCell (by simp) _, fun d hd => ?_⟩
  · rw [Below.heap_setCell _ _ _ _ (by simp)]; exact h.room
  · rw [heap_setCell_same wr (w.heap.size + 1) k _ _ _ h.may, bools_set _ k hk, may_zero h0]
  · rcases Nat.lt_or_ge d k with h1 | h1
    · exact h.ok d h1
    · rw [show d = k by omega]; exact .inl h0
theorem GRel.more (h : GRel nm dk e s w k wr) (hk : k < 6) (h0 : e k ≠ 0) (ha : amg (e k - 1) 6 = true) : GRel nm dk e s w (k + 1) wr := by
  refine ⟨by omega, h.room, ?_, h.low, fun d hd => ?_⟩
  · rw [← may_not h0]; exact h.may
  · rcases Nat.lt_or_ge d k with h1 | h1
    · exact h.ok d h1
    · rw [show d = k by omega]; exact .inr ha
end

set_option maxRecDepth 100000 in
set_option maxHeartbeats 2000000 in
theorem room_good_any (nm : ByteArray) (dk : Bool) (e : Nat → Int) (s : Nat → Bool) (w : World) (hb : ∀ d, d < 6 → -9223372036854775808 ≤ e d ∧ e d ≤ 9223372036854775807) :
    Calls Tryz.prog 61 #[.agg (rmc nm dk e s)] w fun r w' => r = .returned (.bool (groom e s)) ∧ Below w.heap.size w w' := by
  have HB := hide hb
  clear hb
  have S := hide (GRel.start (nm := nm) (dk := dk) (e := e) (s := s) (w := w))
  unfold rmc
  go_enter Tryz.func61, Tryz.ntmps61
  go_wp2_with (refine wl_new 32 (.tmp 3) (.tmp 7) rfl rfl _ _ rfl rfl rfl Tryz.sizeBools rfl rfl ?_)
  go_loopw [10] (fun c wr => ∃ k : Nat, c = .int .i64 k ∧ GRel nm dk e s w k wr) (fun c _ => 6 - (intOf c).toNat)
  case atStart => exact ⟨0, rfl, S.out⟩
  case round =>
    obtain ⟨k, rfl, R⟩ := hrel
    have hle := R.le
    by_cases hk : k < 6
    · have hix := index37 e k hk
      unfold ints at hix
      by_cases h0 : e k = 0
      · have RN := hide (R.zero hk h0)
        have cm : wr.cell? ⟨w.heap.size + 1, k, none⟩ = some (.bool (mayK e s k k)) := by rw [cell_of_row _ _ _ _ _ _ R.may, bools_get _ k hk]
        have cf : wr.frozen? ⟨w.heap.size + 1, k, none⟩ = false := by simp [World.frozen?, R.may]
        have hb0 : (e k == 0) = true := by simp [h0]
        clear h0 R
        go_wp2
        go_roundw
        case rel => exact ⟨k + 1, by go_num, RN.out⟩
        case measure => simp [intOf]; omega
      · have hb0 : (e k == 0) = false := by simp [h0]
        have H0 := hide h0
        have HR := hide R
        clear R h0
        have HW := hide (amg_wrap (e k) 6 (by omega) (HB.out k hk).1 (HB.out k hk).2)
        go_wp2_with fail
        refine (among_any _ 6 _).mono ?_
        rintro r w1 ⟨rfl, hw⟩
        rw [hw, HW.out]
        clear hw w1
        cases ha : amg (e k - 1) 6 with
        | false =>
          have HG := hide (groom_bad (s := s) hk H0.out ha)
          clear ha
          go_wp2
          go_ret
          exact ⟨ret_bool HG.out.symm, HR.out.low⟩
        | true =>
          have RN := hide (HR.out.more hk H0.out ha)
          clear ha
          go_wp2
          go_roundw
          case rel => exact ⟨k + 1, by go_num, RN.out⟩
          case measure => simp [intOf]; omega
    · have hk6 : k = 6 := by omega
      subst hk6
      have HG := hide (groom_end (s := s) R.ok)
      have hlow := hide R.low
      have q := fun o => cell_of_row wr w.heap.size o _ _ _ R.room
      have q8 : wr.cell? ⟨w.heap.size, 8, none⟩ = some (.bool (s 0)) := q 8
      have q9 : wr.cell? ⟨w.heap.size, 9, none⟩ = some (.bool (s 1)) := q 9
      have q10 : wr.cell? ⟨w.heap.size, 10, none⟩ = some (.bool (s 2)) := q 10
      have q11 : wr.cell? ⟨w.heap.size, 11, none⟩ = some (.bool (s 3)) := q 11
      have q12 : wr.cell? ⟨w.heap.size, 12, none⟩ = some (.bool (s 4)) := q 12
      have q13 : wr.cell? ⟨w.heap.size, 13, none⟩ = some (.bool (s 5)) := q 13
      have m := fun o => cell_of_row wr (w.heap.size + 1) o _ _ _ R.may
      have m0 : wr.cell? ⟨w.heap.size + 1, 0, none⟩ = some (.bool (mayK e s 6 0)) := m 0
      have m1 : wr.cell? ⟨w.heap.size + 1, 1, none⟩ = some (.bool (mayK e s 6 1)) := m 1
      have m2 : wr.cell? ⟨w.heap.size + 1, 2, none⟩ = some (.bool (mayK e s 6 2)) := m 2
      have m3 : wr.cell? ⟨w.heap.size + 1, 3, none⟩ = some (.bool (mayK e s 6 3)) := m 3
      have m4 : wr.cell? ⟨w.heap.size + 1, 4, none⟩ = some (.bool (mayK e s 6 4)) := m 4
      have m5 : wr.cell? ⟨w.heap.size + 1, 5, none⟩ = some (.bool (mayK e s 6 5)) := m 5
      have hq := eq38 s (mayK e s 6)
      unfold bools at hq
      rw [← HG.out] at hq
      clear q m R
      go_wp2
      go_ret
      exact ⟨rfl, hlow.out⟩
end Go.Proofs.YtncgcejlkmoliaaGreatDoor
