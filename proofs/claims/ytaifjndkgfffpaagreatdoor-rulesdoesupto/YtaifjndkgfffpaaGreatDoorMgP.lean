/-
  Lists of texts in memory; a text's bytes in memory.
-/
import Derived.Test.YtaifjndkgfffpaaGreatDoorMgH
import Derived.Deep.OwnRows
namespace Go.Proofs.YtaifjndkgfffpaaGreatDoor
open Go.RowKit
set_option linter.unusedVariables false
theorem bs_toList (l : List UInt8) : (bs l).toList = l := by rw [Lib.toList_data, bs_data]

/-- v is a list of these texts. -/
def Rd (w : World) (v : Value) (q : List (List UInt8)) : Prop := Reads w v (q.map bs)

section
variable {w : World} {v : Value} {x : List UInt8} {r : List (List UInt8)}
theorem Rd.none (h : Rd w v []) : ∃ av cap, v = .slice av 0 cap ∧ cap ≤ maxLen := by
  obtain ⟨av, cap, e, hl, hm, _, _⟩ := h
  exact ⟨av, cap, by simpa using e, hm⟩
theorem Rd.shape (h : Rd w v r) : ∃ av cap, v = .slice av r.length cap ∧ r.length ≤ cap ∧ cap ≤ maxLen := by
  obtain ⟨av, cap, e, hl, hm, _, _⟩ := h
  exact ⟨av, cap, by simpa using e, by simpa using hl, hm⟩
theorem Rd.cons (h : Rd w v (x :: r)) : ∃ b off cap, v = .slice (some ⟨b, off, Option.none⟩) (r.length + 1) cap ∧ r.length + 1 ≤ cap ∧ cap ≤ maxLen ∧ w.cell? ⟨b, off, Option.none⟩ = some (.string (bs x)) ∧
    Rd w (.slice (if cap = 1 then some ⟨b, off, Option.none⟩ else some ⟨b, off + 1, Option.none⟩) r.length (cap - 1)) r := by
  have h' := h
  obtain ⟨av, cap, e, hl, hm, hn, hc⟩ := h
  obtain ⟨b, off, rfl, hcell⟩ := hc (by simp)
  subst e
  refine ⟨b, off, cap, by simp, by simpa using hl, hm, by simpa using hcell 0 (by simp), ?_⟩
  have := reads_tail (f := bs x) (r := r.map bs) (b := b) (off := off) (cap := cap) h'
  simpa [Rd] using this
theorem Rd.below {w' : World} {B : Nat} (h : Rd w v r) (hb : Below B w w') (hB : w.heap.size ≤ B) : Rd w' v r := Reads.below h hb hB
theorem Rd.alloc (h : Rd w v r) (o : Obj) : Rd (w.alloc o) v r := Reads.alloc h o
end

def strSize : Value → Nat
  | .string t => t.size
  | _ => 0

/-- Block n holds these bytes, and they may be written. -/
structure Lo (w0 : World) (n : Nat) (l : List UInt8) (wr : World) : Prop where
  lo : w0.heap.size ≤ n
  below : Below w0.heap.size w0 wr
  blk : ∃ C t fr, wr.heap[n]? = some (.cells C t fr) ∧ l.length ≤ fr.1 ∧ ∀ j (hj : j < l.length), C[j]? = some (.int .u8 l[j].toNat)

section
variable {w0 wr : World} {n : Nat} {l : List UInt8}
theorem Lo.cell (h : Lo w0 n l wr) (j : Nat) (hj : j < l.length) : wr.cell? ⟨n, j, none⟩ = some (.int .u8 l[j].toNat) := by
  obtain ⟨C, t, fr, hb, _, hc⟩ := h.blk
  simp only [World.cell?, hb]
  exact hc j hj
theorem Lo.frozen (h : Lo w0 n l wr) (j : Nat) (hj : j < l.length) : wr.frozen? ⟨n, j, none⟩ = false := by
  obtain ⟨C, t, fr, hb, hf, _⟩ := h.blk
  simp only [World.frozen?, hb]
  simp; omega
theorem Lo.lt (h : Lo w0 n l wr) : n < wr.heap.size := by
  obtain ⟨C, t, fr, hb, _⟩ := h.blk
  exact (Array.getElem?_eq_some_iff.1 hb).1
theorem Lo.put (h : Lo w0 n l wr) (j : Nat) (hj : j < l.length) (b : UInt8) {v : Value} (hv : v = .int .u8 b.toNat) : Lo w0 n (l.set j b) (wr.setCell ⟨n, j, none⟩ v) := by
  subst hv
  refine ⟨h.lo, h.below.setCell h.lo _, ?_⟩
  obtain ⟨C, t, fr, hb, hf, hc⟩ := h.blk
  refine ⟨C.setIfInBounds j (.int .u8 b.toNat), t, fr, ?_, by simpa using hf, ?_⟩
  · rw [setCell_eq_setRow wr n j C t fr _ hb]; exact setRow_heap wr n C _ t _ hb
  · intro i hi
    rw [List.length_set] at hi
    rw [Array.getElem?_setIfInBounds]
    by_cases e : j = i
    · subst e
      have : j < C.size := (Array.getElem?_eq_some_iff.1 (hc j hj)).1
      simp [this]
    · rw [if_neg e, hc i hi]; simp [e]
end

theorem conv_made (s : ByteArray) (w : World) : ∃ (cap : Nat) (o : Obj), (convert 9 112 (.string s)).run Tryz.prog w = .ok (.slice (some ⟨w.heap.size, 0, none⟩) s.size cap) (w.drew.alloc o) ∧ Lo w w.heap.size s.data.toList (w.drew.alloc o) := by
  refine ⟨_, _, run_bytes_of_string w 9 112 5 s Tryz.underlying9 Tryz.underlying112 Tryz.underlying5, Nat.le_refl _, ?_, ?_⟩
  · exact ⟨rfl, rfl, rfl, by show w.heap.size ≤ (w.heap.push _).size; simp, fun k hk => by
      show (w.heap.push _)[k]? = w.heap[k]?
      rw [Array.getElem?_push, if_neg (by omega)]⟩
  · refine ⟨_, _, _, heap_alloc_new w.drew _, ?_, ?_⟩
    · show s.data.toList.length ≤ (bytesRow s _).size
      unfold bytesRow
      rw [Array.size_append, Array.size_map, Array.length_toList]; omega
    · intro j hj
      have hj' : j < s.data.size := by rw [← Array.length_toList]; exact hj
      unfold bytesRow
      rw [Array.getElem?_append_left (by rw [Array.size_map]; exact hj'), Array.getElem?_map, Array.getElem?_eq_getElem hj']
      simp
/-
  What the document's answer makes of a text cut at every dot: strings.Split at one byte.
-/
/-- A text cut at every c. -/
def dsp (c : UInt8) : List UInt8 → List UInt8 → List (List UInt8)
  | acc, [] => [acc]
  | acc, x :: r => if x = c then acc :: dsp c [] r else dsp c (acc ++ [x]) r
def dotsL (c : UInt8) (l : List UInt8) : List (List UInt8) := dsp c [] l

theorem dsp_len (c : UInt8) : ∀ (l acc : List UInt8), (dsp c acc l).length = l.count c + 1
  | [], acc => by simp [dsp]
  | x :: r, acc => by
    by_cases hx : x = c
    · have := dsp_len c r []
      simp [dsp, hx, this]
    · have := dsp_len c r (acc ++ [x])
      simp [dsp, hx, this]
theorem dots_len (c : UInt8) (l : List UInt8) : (dotsL c l).length = l.count c + 1 := dsp_len c l []

theorem dsp_cut (c : UInt8) : ∀ (l acc : List UInt8), dsp c acc l = if (cutL c l).2.2 = true then (acc ++ (cutL c l).1) :: dotsL c (cutL c l).2.1 else [acc ++ l]
  | [], acc => by simp [dsp, cutL]
  | x :: r, acc => by
    by_cases hx : x = c
    · simp [dsp, cutL, hx, dotsL]
    · have := dsp_cut c r (acc ++ [x])
      simp only [dsp, cutL, if_neg hx]
      rw [this]
      simp
theorem dots_cut (c : UInt8) (l : List UInt8) : dotsL c l = if (cutL c l).2.2 = true then (cutL c l).1 :: dotsL c (cutL c l).2.1 else [l] := by
  have := dsp_cut c l []
  simpa [dotsL] using this

theorem dots_hit {c : UInt8} {l : List UInt8} {i : Nat} (h : Lib.indexByte l c = (i : Int)) : dotsL c l = l.take i :: dotsL c (l.drop (i + 1)) := by
  rw [dots_cut, cut_hit c l i h]; simp
theorem dots_miss {c : UInt8} {l : List UInt8} (h : Lib.indexByte l c = -1) : dotsL c l = [l] := by
  rw [dots_cut, cut_miss c l h]; simp

set_option maxHeartbeats 1000000 in
set_option maxRecDepth 100000 in
theorem count_one (s : ByteArray) (c : UInt8) (w : World) :
    Calls Tryz.prog 101 #[.string s, .string ⟨#[c]⟩] w fun e w' => e = .returned (.int .i64 ((s.data.toList.count c : Nat) : Int)) ∧ w' = w := by
  go_enter Tryz.func101, Tryz.ntmps101
  go_wp2
  rw [run_callFunc_extern Tryz.func106 (by kernel_rfl) (by kernel_rfl) (by kernel_rfl) (e := Extern.BytealgCount.count) (by kernel_rfl), Lib.run_countString]
  simp only [Result.andThen]
  rw [Oper.upon_value]
  go_wp2
  go_ret
  exact ⟨rfl, rfl⟩

/-- Block g holds N texts, the first of them these. -/
structure Row (w0 : World) (g N : Nat) (q : List (List UInt8)) (wr : World) : Prop where
  lo : w0.heap.size ≤ g
  below : Below w0.heap.size w0 wr
  blk : ∃ C, wr.heap[g]? = some (.cells C 9 (0, 0)) ∧ C.size = N ∧ ∀ j (hj : j < q.length), C[j]? = some (.string (bs q[j]))

section
variable {w0 wr : World} {g N : Nat} {q : List (List UInt8)}
theorem Row.some (h : Row w0 g N q wr) (j : Nat) (hj : j < N) : ∃ v, wr.cell? ⟨g, j, none⟩ = Option.some v := by
  obtain ⟨C, hb, hn, _⟩ := h.blk
  refine ⟨C[j]'(by omega), ?_⟩
  simp only [World.cell?, hb]
  simp [show j < C.size by omega]
theorem Row.frozen (h : Row w0 g N q wr) (j : Nat) : wr.frozen? ⟨g, j, none⟩ = false := by
  obtain ⟨C, hb, _⟩ := h.blk
  simp only [World.frozen?, hb]
  simp
theorem Row.put (h : Row w0 g N q wr) (x : List UInt8) {v : Value} (hv : v = .string (bs x)) (hj : q.length < N) {o : Nat} (ho : o = q.length) : Row w0 g N (q ++ [x]) (wr.setCell ⟨g, o, none⟩ v) := by
  subst hv ho
  refine ⟨h.lo, h.below.setCell h.lo _, ?_⟩
  obtain ⟨C, hb, hn, hc⟩ := h.blk
  refine ⟨C.setIfInBounds q.length (.string (bs x)), heap_setCell_same wr g _ C 9 _ hb, by simpa using hn, fun j hj' => ?_⟩
  rw [Array.getElem?_setIfInBounds]
  rw [List.length_append, List.length_singleton] at hj'
  by_cases e : q.length = j
  · subst e
    simp [show q.length < C.size by omega]
  · rw [if_neg e, hc j (by omega)]
    simp [show j < q.length by omega]
theorem Row.reads (h : Row w0 g q.length q wr) (hm : q.length ≤ maxLen) : Rd wr (.slice (Option.some ⟨g, 0, none⟩) q.length q.length) q := by
  obtain ⟨C, hb, hn, hc⟩ := h.blk
  refine ⟨Option.some ⟨g, 0, none⟩, q.length, by simp, by simp, hm, fun e => (by cases e), fun _ => ⟨g, 0, rfl, fun i hi => ?_⟩⟩
  rw [List.length_map] at hi
  simp only [World.cell?, hb, Nat.zero_add]
  simp [hc i hi]
end
/-
  The contracts of strings.genSplit and Split at one byte.
-/
theorem row_made (w : World) (N : Nat) : Row w w.heap.size N [] (w.alloc (.cells (madeCells #[.string ⟨#[]⟩] N) 9)) :=
  ⟨Nat.le_refl _, (Below.refl _ _).alloc (Nat.le_refl _) _, _, heap_alloc_new w _, size_madeCells _ _, fun j hj => by simp at hj⟩

/-- As a round begins: q is done, t is left. -/
structure Gs (w : World) (c : UInt8) (l : List UInt8) (N : Nat) (t : ByteArray) (q : List (List UInt8)) (wr : World) : Prop where
  le : t.size ≤ l.length
  eq : q ++ dotsL c t.data.toList = dotsL c l
  num : (dotsL c l).length = N
  row : Row w w.heap.size N q wr

theorem Gs.few {w wr : World} {c : UInt8} {l : List UInt8} {N : Nat} {t : ByteArray} {q : List (List UInt8)} (h : Gs w c l N t q wr) : q.length + (t.data.toList.count c + 1) = N := by
  have h1 := congrArg List.length h.eq
  rw [List.length_append, h.num, dots_len] at h1
  exact h1

theorem idx_some {c : UInt8} {l : List UInt8} (h : 0 < l.count c) : ∃ i : Nat, Lib.indexByte l c = (i : Int) ∧ i < l.length := by
  have hm : c ∈ l := List.count_pos_iff.1 h
  have := idx_mem c l
  rw [decide_eq_true hm] at this
  have h0 : 0 ≤ Lib.indexByte l c := of_decide_eq_true this
  refine ⟨(Lib.indexByte l c).toNat, by omega, cut_bound c l _ (by omega)⟩
theorem idx_none {c : UInt8} {l : List UInt8} (h : l.count c = 0) : Lib.indexByte l c = -1 := by
  have hm : ¬ c ∈ l := fun hc => by have := List.count_pos_iff.2 hc; omega
  have := idx_mem c l
  rw [decide_eq_false hm] at this
  have h0 : ¬ 0 ≤ Lib.indexByte l c := of_decide_eq_false this
  have := Lib.indexByte_ge l c
  omega

set_option maxHeartbeats 4000000 in
set_option maxRecDepth 100000 in
theorem gen_any (s : ByteArray) (c : UInt8) (w : World) (hs : s.size ≤ 8796093022207) :
    Calls Tryz.prog 91 #[.string s, .string ⟨#[c]⟩, .int .i64 0, .int .i64 (-1)] w fun e w' => ∃ v, e = .returned v ∧ Rd w' v (dotsL c s.data.toList) ∧ Below w.heap.size w w' := by
  have hcnt : s.data.toList.count c ≤ s.size := by rw [← size_len]; exact List.count_le_length
  have HD := hide (dots_len c s.data.toList)
  have C1 := hide (fun w' => count_one s c w')
  generalize s.data.toList.count c = K at hcnt HD C1
  have ec : ((K + 1 : Nat) : Int) = (K : Int) + 1 := by omega
  have hmin : min ((K : Int) + 1) ((s.size : Int) + 1) = (K : Int) + 1 := by omega
  have hmk := run_make_row' (P := Tryz.prog) 110 9 (.string ⟨#[]⟩) 16 Tryz.underlying110 Tryz.info9 rfl .i64 .i64 (K + 1) (by omega) (by omega)
  rw [ec] at hmk
  have hl1 : ([c] : List UInt8).isEmpty = false := rfl
  clear ec
  go_enter Tryz.func91, Tryz.ntmps91
  go_wp2_with fail
  refine (C1.out _).mono ?_
  rintro e w ⟨rfl, rfl⟩
  go_wp2
  have HR := hide (row_made w (K + 1))
  clear hmk hmin C1
  generalize w.alloc (.cells (madeCells #[.string ⟨#[]⟩] (K + 1)) 9) = wa at HR ⊢
  go_loopw [0, 10, 11] (fun sv iv _ wr => ∃ (t : ByteArray) (q : List (List UInt8)), sv = .string t ∧ iv = .int .i64 (q.length : Int) ∧ Gs w c s.data.toList (K + 1) t q wr) (fun sv _ _ _ => strSize sv)
  case atStart => exact ⟨s, [], rfl, rfl, by rw [size_len]; exact Nat.le_refl _, rfl, HD.out, HR.out⟩
  case round =>
    obtain ⟨t, q, rfl, rfl, hG⟩ := hrel
    have hfew := hG.few
    have hle := hG.le
    rw [size_len] at hle
    obtain ⟨old, hcell⟩ := hG.row.some q.length (by omega)
    have hfz := hG.row.frozen q.length
    have HG := hide hG
    clear hG
    by_cases hlt : q.length < K
    · obtain ⟨i, hi, hib⟩ := idx_some (c := c) (l := t.data.toList) (by omega)
      rw [size_len] at hib
      have C2 := hide (fun w' => index_one t c w')
      rw [hi] at C2
      have HX := hide (dots_hit hi)
      have e1 := hide (extract_upto t i)
      have e2 := hide (extract_from t (i + 1))
      clear hi
      go_wp2_with fail
      refine (C2.out _).mono ?_
      rintro e w' ⟨rfl, rfl⟩
      go_wp2
      refine ⟨⟨_, q ++ [t.data.toList.take i], rfl, by simp, ?_, ?_, HD.out, HG.out.row.put _ (by rw [e1.out]) (by omega) rfl⟩, ?_⟩
      · rw [size_len, e2.out, bs_size, List.length_drop, size_len]; omega
      · rw [e2.out, bs_data, List.append_assoc, ← HG.out.eq, HX.out]; rfl
      · simp only [strSize, e2.out, bs_size, List.length_drop, size_len]; omega
    · have hq : q.length = K := by omega
      have hc0 : t.data.toList.count c = 0 := by omega
      have HX := hide (dots_miss (idx_none hc0))
      have HP := hide (HG.out.row.put (x := t.data.toList) (v := .string t) (by rw [bs_of]) (by omega) hq.symm)
      rw [hq] at hcell hfz
      clear hc0
      go_wp2
      go_ret
      refine ⟨_, rfl, ?_, HP.out.below⟩
      have e : q ++ [t.data.toList] = dotsL c s.data.toList := by rw [← HG.out.eq, HX.out]
      rw [← e]
      have hl : (q ++ [t.data.toList]).length = K + 1 := by simp [hq]
      have := HP.out
      rw [← hl] at this
      have hr := this.reads (by rw [hl]; unfold maxLen; omega)
      rw [hl] at hr
      exact hr

theorem dots_any (s : ByteArray) (c : UInt8) (w : World) (hs : s.size ≤ 8796093022207) :
    Calls Tryz.prog 82 #[.string s, .string ⟨#[c]⟩] w fun e w' => ∃ v, e = .returned v ∧ Rd w' v (dotsL c s.data.toList) ∧ Below w.heap.size w w' := by
  go_enter Tryz.func82, Tryz.ntmps82
  go_wp2_with fail
  refine (gen_any s c _ hs).mono ?_
  rintro e w1 ⟨v, rfl, hr, hb⟩
  go_wp2
  go_ret
  exact ⟨_, rfl, hr, hb⟩
/-
  The contract of the document's own NounOf.
-/
theorem dots_ne (c : UInt8) (l : List UInt8) : dotsL c l ≠ [] := fun e => by
  have := dots_len c l; rw [e] at this; simp at this
theorem dots1 {c : UInt8} {l x : List UInt8} (h : dotsL c l = [x]) : x = l ∧ c ∉ l ∧ (cutL c l).2.2 = false := by
  have hc := dots_len c l
  rw [h] at hc
  simp at hc
  rw [dots_cut] at h
  cases hd : (cutL c l).2.2
  · rw [hd] at h; simp at h; exact ⟨h.symm, List.count_eq_zero.1 hc, rfl⟩
  · rw [hd] at h
    simp at h
    exact absurd h.2 (dots_ne _ _)
theorem dots2 {c : UInt8} {l A B : List UInt8} (h : dotsL c l = [A, B]) : (cutL c l).2.2 = true ∧ (cutL c l).1 = A ∧ (cutL c l).2.1 = B ∧ c ∉ B := by
  rw [dots_cut] at h
  cases hd : (cutL c l).2.2
  · rw [hd] at h; simp at h
  · rw [hd] at h
    simp at h
    obtain ⟨h1, h2, _⟩ := dots1 h.2
    exact ⟨rfl, h.1, h1.symm, by rw [h1]; exact h2⟩
theorem dots3 {c : UInt8} {l A B C : List UInt8} {r : List (List UInt8)} (h : dotsL c l = A :: B :: C :: r) : (cutL c l).2.2 = true ∧ c ∈ (cutL c l).2.1 := by
  rw [dots_cut] at h
  cases hd : (cutL c l).2.2
  · rw [hd] at h; simp at h
  · rw [hd] at h
    simp at h
    have hc := dots_len c (cutL c l).2.1
    rw [h.2] at hc
    simp at hc
    refine ⟨rfl, List.count_pos_iff.1 (by omega)⟩

theorem noun1 {l : List UInt8} {x : List UInt8} (h : dotsL 46 l = [x]) (ha : ¬ l = allW) (hne : ¬ l = []) : nounL l = some (1, l, false) := by
  obtain ⟨_, h2, h3⟩ := dots1 h
  have ha' : ¬ l = [97, 108, 108] := ha
  simp [nounL, ha', h3, nounT, hne, h2, allW, numL]
theorem noun2 {l A B : List UInt8} (h : dotsL 46 l = [A, B]) (ha : ¬ l = allW) : nounL l = if B = [] then none else if A = allW then some (1, B, true) else match numL A with | some n => some (n, B, false) | none => none := by
  obtain ⟨h1, h2, h3, h4⟩ := dots2 h
  simp only [nounL, if_neg ha, h1, if_true, h2, h3, nounT]
  by_cases hB : B = []
  · simp [hB]
  · by_cases hA : A = allW
    · simp [hB, h4, hA]
    · simp only [hB, h4, hA, or_self, if_false]
      cases numL A <;> rfl
theorem noun3 {l A B C : List UInt8} {r : List (List UInt8)} (h : dotsL 46 l = A :: B :: C :: r) (ha : ¬ l = allW) : nounL l = none := by
  obtain ⟨h1, h2⟩ := dots3 h
  simp [nounL, ha, h1, nounT, h2]

theorem split_all (s : ByteArray) (w : World) (hs : s.size ≤ 8796093022207) (ha : (s.toList == [97, 108, 108]) = true) :
    Calls Tryz.prog 56 #[.string s] w fun e w' => e = .returned (nounA (nounL s.data.toList)) ∧ Below w.heap.size w w' := by
  have HT := hide (show nounL s.data.toList = some (1, [], true) by
    have : s.data.toList = allW := by rw [Lib.toList_data] at ha; simpa [allW] using ha
    simp [nounL, this])
  go_enter Tryz.func56, Tryz.ntmps56
  go_wp2_with fail
  refine (dots_any s 46 _ hs).mono ?_
  rintro e w1 ⟨v, rfl, hr, hb⟩
  clear hr
  replace hb := hide hb
  go_wp2
  refine bodyPost_ret (res4 rfl rfl rfl rfl rfl) rfl ?_
  exact ⟨ret_any (by rw [HT.out]; rfl), hb.out⟩

set_option maxHeartbeats 4000000 in
set_option maxRecDepth 100000 in
theorem refnoun_short (s : ByteArray) (w : World) (hs : s.size ≤ 8796093022207) (ha : (s.toList == [97, 108, 108]) = false) (x : List UInt8) (hD : dotsL 46 s.data.toList = [x]) :
    Calls Tryz.prog 56 #[.string s] w fun e w' => e = .returned (nounA (nounL s.data.toList)) ∧ Below w.heap.size w w' := by
  have hna : ¬ s.data.toList = allW := by
    intro e; rw [Lib.toList_data, e] at ha; simp [allW] at ha
  have C1 := hide (fun w' => dots_any s 46 w' hs)
  rw [hD] at C1
  cases he : s.toList.isEmpty
  · have hne : ¬ s.data.toList = [] := by intro e; rw [Lib.toList_data, e] at he; simp at he
    have HT := hide (noun1 hD hna hne)
    clear hD hna hne
    go_enter Tryz.func56, Tryz.ntmps56
    go_wp2_with fail
    refine (C1.out _).mono ?_
    rintro e w1 ⟨v, rfl, hr, hb⟩
    obtain ⟨av, cap, rfl, hl, hm⟩ := hr.shape
    clear hr
    replace hb := hide hb
    go_wp2
    refine bodyPost_ret (res4 rfl rfl rfl rfl rfl) rfl ?_
    exact ⟨ret_any (by rw [HT.out]; show _ = Value.tuple _; rw [bs_of]; rfl), hb.out⟩
  · have HT := hide (show nounL s.data.toList = none by rw [isEmpty_nil' he]; rfl)
    clear hD hna
    go_enter Tryz.func56, Tryz.ntmps56
    go_wp2_with fail
    refine (C1.out _).mono ?_
    rintro e w1 ⟨v, rfl, hr, hb⟩
    obtain ⟨av, cap, rfl, hl, hm⟩ := hr.shape
    clear hr
    replace hb := hide hb
    go_wp2
    refine bodyPost_ret (res4 rfl rfl rfl rfl rfl) rfl ?_
    exact ⟨ret_any (by rw [HT.out]; rfl), hb.out⟩

set_option maxHeartbeats 4000000 in
set_option maxRecDepth 100000 in
theorem refnoun_long (s : ByteArray) (w : World) (hs : s.size ≤ 8796093022207) (ha : (s.toList == [97, 108, 108]) = false) (A B C : List UInt8) (r : List (List UInt8)) (hD : dotsL 46 s.data.toList = A :: B :: C :: r) :
    Calls Tryz.prog 56 #[.string s] w fun e w' => e = .returned (nounA (nounL s.data.toList)) ∧ Below w.heap.size w w' := by
  have hna : ¬ s.data.toList = allW := by
    intro e; rw [Lib.toList_data, e] at ha; simp [allW] at ha
  have C1 := hide (fun w' => dots_any s 46 w' hs)
  rw [hD] at C1
  have HT := hide (noun3 hD hna)
  clear hD hna
  go_enter Tryz.func56, Tryz.ntmps56
  go_wp2_with fail
  refine (C1.out _).mono ?_
  rintro e w1 ⟨v, rfl, hr, hb⟩
  obtain ⟨av, cap, rfl, hl, hm⟩ := hr.shape
  have hlen : (A :: B :: C :: r).length = r.length + 3 := rfl
  rw [hlen] at hl ⊢
  clear hr hlen
  generalize r.length = m at hl
  have b1 : (((m + 3 : Nat) : Int) == 1) = false := by simp; omega
  have b2 : (((m + 3 : Nat) : Int) != 2) = true := by simp; omega
  replace hb := hide hb
  go_wp2
  refine bodyPost_ret (res4 rfl rfl rfl rfl rfl) rfl ?_
  exact ⟨ret_any (by rw [HT.out]; rfl), hb.out⟩

/-- The list of two, in memory. -/
theorem two_cells {w : World} {v : Value} {A B : List UInt8} (h : Rd w v [A, B]) : ∃ b off cap, v = .slice (some ⟨b, off, none⟩) 2 cap ∧ 2 ≤ cap ∧ cap ≤ maxLen ∧ w.cell? ⟨b, off, none⟩ = some (.string (bs A)) ∧ w.cell? ⟨b, off + 1, none⟩ = some (.string (bs B)) := by
  obtain ⟨b, off, cap, rfl, hl, hm, c0, ht⟩ := h.cons
  simp only [List.length_cons, List.length_nil] at hl
  rw [if_neg (by omega)] at ht
  obtain ⟨b', off', cap', e, _, _, c1, _⟩ := ht.cons
  injection e with f1; injection f1 with f1; injection f1 with f4 f5
  subst f4 f5
  exact ⟨b, off, cap, rfl, by omega, hm, c0, c1⟩

set_option maxHeartbeats 4000000 in
set_option maxRecDepth 100000 in
theorem refnoun_two (s : ByteArray) (w : World) (hs : s.size ≤ 8796093022207) (ha : (s.toList == [97, 108, 108]) = false) (A B : List UInt8) (hD : dotsL 46 s.data.toList = [A, B]) (hx : B = [] ∨ (B ≠ [] ∧ A = allW)) :
    Calls Tryz.prog 56 #[.string s] w fun e w' => e = .returned (nounA (nounL s.data.toList)) ∧ Below w.heap.size w w' := by
  have hna : ¬ s.data.toList = allW := by
    intro e; rw [Lib.toList_data, e] at ha; simp [allW] at ha
  have C1 := hide (fun w' => dots_any s 46 w' hs)
  rw [hD] at C1
  have hn := noun2 hD hna
  have hbt := bs_toList
  clear hD hna
  rcases hx with hB | ⟨hB, hA⟩
  · rw [if_pos hB] at hn
    have HT := hide hn
    have hBe : B.isEmpty = true := by rw [hB]; rfl
    clear hn hB
    go_enter Tryz.func56, Tryz.ntmps56
    go_wp2_with fail
    refine (C1.out _).mono ?_
    rintro e w1 ⟨v, rfl, hr, hb⟩
    obtain ⟨b, off, cap, rfl, hl, hm, c0, c1⟩ := two_cells hr
    clear hr
    replace hb := hide hb
    go_wp2
    refine bodyPost_ret (res4 rfl rfl rfl rfl rfl) rfl ?_
    exact ⟨ret_any (by rw [HT.out]; rfl), hb.out⟩
  · rw [if_neg hB, if_pos hA] at hn
    have HT := hide hn
    have hBe : B.isEmpty = false := by cases B with | nil => exact absurd rfl hB | cons _ _ => rfl
    have hAe : (A == [97, 108, 108]) = true := by rw [hA]; rfl
    clear hn hB hA
    go_enter Tryz.func56, Tryz.ntmps56
    go_wp2_with fail
    refine (C1.out _).mono ?_
    rintro e w1 ⟨v, rfl, hr, hb⟩
    obtain ⟨b, off, cap, rfl, hl, hm, c0, c1⟩ := two_cells hr
    clear hr
    replace hb := hide hb
    go_wp2
    go_region
    all_goals go_wp2
    all_goals refine bodyPost_ret (res4 rfl rfl rfl rfl rfl) rfl ?_
    all_goals exact ⟨ret_any (by rw [HT.out]; rfl), below_drewN hb.out 1⟩
/-
  The contract of the document's own NounOf, where there is a number.
-/
/-- What k bytes of a number come to. -/
def NumC (A : List UInt8) (k N : Nat) : Prop :=
  (k = 0 ∧ N = 0) ∨ (k = 1 ∧ ∃ a, A[0]? = some a ∧ 49 ≤ a.toNat ∧ a.toNat ≤ 57 ∧ N = a.toNat - 48) ∨
  (k = 2 ∧ ∃ a b, A[0]? = some a ∧ A[1]? = some b ∧ 49 ≤ a.toNat ∧ a.toNat ≤ 57 ∧ 48 ≤ b.toNat ∧ b.toNat ≤ 57 ∧ N = (a.toNat - 48) * 10 + (b.toNat - 48))

theorem num_bad0 {a : UInt8} {r : List UInt8} (h : ¬ (49 ≤ a.toNat ∧ a.toNat ≤ 57)) : numL (a :: r) = none := by
  match r with
  | [] => simp [numL, h]
  | [b] =>
    have : ¬ (49 ≤ a.toNat ∧ a.toNat ≤ 57 ∧ 48 ≤ b.toNat ∧ b.toNat ≤ 57) := fun h' => h ⟨h'.1, h'.2.1⟩
    simp [numL, this]
  | b :: c :: r => rfl
theorem num_bad1 {a b : UInt8} {r : List UInt8} (h : ¬ (48 ≤ b.toNat ∧ b.toNat ≤ 57)) : numL (a :: b :: r) = none := by
  match r with
  | [] =>
    have : ¬ (49 ≤ a.toNat ∧ a.toNat ≤ 57 ∧ 48 ≤ b.toNat ∧ b.toNat ≤ 57) := fun h' => h h'.2.2
    simp [numL, this]
  | c :: r => rfl
theorem num_bad2 {A : List UInt8} (h : 2 < A.length) : numL A = none := by
  match A, h with
  | a :: b :: c :: r, _ => rfl
theorem num_bad {A : List UInt8} {k N : Nat} (h : NumC A k N) (hk : k < A.length) (hb : (A[k].toNat < 48 ∨ 57 < A[k].toNat) ∨ (k = 0 ∧ A[k].toNat = 48) ∨ 1 < k) : numL A = none := by
  rcases h with ⟨rfl, rfl⟩ | ⟨rfl, a, ha, h1, h2, rfl⟩ | ⟨rfl, _⟩
  · match A, hk with
    | a :: r, _ => exact num_bad0 (by simp at hb; omega)
  · match A, hk with
    | a :: b :: r, _ => exact num_bad1 (by simp at hb; omega)
  · exact num_bad2 hk
theorem num_next {A : List UInt8} {k N : Nat} (h : NumC A k N) (hk : k < A.length) (h1 : 48 ≤ A[k].toNat) (h2 : A[k].toNat ≤ 57) (h3 : k = 0 → A[k].toNat ≠ 48) (h4 : k ≤ 1) : NumC A (k + 1) (10 * N + (A[k].toNat - 48)) := by
  rcases h with ⟨rfl, rfl⟩ | ⟨rfl, a, ha, h5, h6, rfl⟩ | ⟨rfl, _⟩
  · exact .inr (.inl ⟨rfl, A[0], by simp, by have := h3 rfl; omega, h2, by omega⟩)
  · exact .inr (.inr ⟨rfl, a, A[1], ha, by simp, h5, h6, h1, h2, by omega⟩)
  · omega
theorem num_end {A : List UInt8} {k N : Nat} (h : NumC A k N) (hk : k = A.length) : (N = 0 ∧ numL A = none) ∨ (N ≠ 0 ∧ numL A = some N) := by
  rcases h with ⟨rfl, rfl⟩ | ⟨rfl, a, ha, h1, h2, rfl⟩ | ⟨rfl, a, b, ha, hb, h1, h2, h3, h4, rfl⟩
  · have : A = [] := List.eq_nil_of_length_eq_zero hk.symm
    subst this
    exact .inl ⟨rfl, rfl⟩
  · match A, hk with
    | [x], _ =>
      simp at ha; subst ha
      exact .inr ⟨by omega, by simp [numL, h1, h2]⟩
  · match A, hk with
    | [x, y], _ =>
      simp at ha hb; subst ha hb
      exact .inr ⟨by omega, by simp [numL, h1, h2, h3, h4]⟩
theorem num_small {A : List UInt8} {k N : Nat} (h : NumC A k N) : k ≤ 2 ∧ N ≤ 99 := by
  rcases h with ⟨rfl, rfl⟩ | ⟨rfl, a, ha, h1, h2, rfl⟩ | ⟨rfl, a, b, ha, hb, h1, h2, h3, h4, rfl⟩ <;> omega

set_option maxHeartbeats 8000000 in
set_option maxRecDepth 100000 in
theorem refnoun_num (s : ByteArray) (w : World) (hs : s.size ≤ 8796093022207) (ha : (s.toList == [97, 108, 108]) = false) (A B : List UInt8) (hD : dotsL 46 s.data.toList = [A, B]) (hB : B ≠ []) (hA : ¬ A = allW) :
    Calls Tryz.prog 56 #[.string s] w fun e w' => e = .returned (nounA (nounL s.data.toList)) ∧ Below w.heap.size w w' := by
  have hna : ¬ s.data.toList = allW := by
    intro e; rw [Lib.toList_data, e] at ha; simp [allW] at ha
  have C1 := hide (fun w' => dots_any s 46 w' hs)
  rw [hD] at C1
  have hn := noun2 hD hna
  rw [if_neg hB, if_neg hA] at hn
  have HT := hide hn
  have hbt := bs_toList
  have hBe : B.isEmpty = false := by cases B with | nil => exact absurd rfl hB | cons _ _ => rfl
  have hAe : (A == [97, 108, 108]) = false := by
    cases h : (A == [97, 108, 108]) with
    | false => rfl
    | true => exact absurd (by simpa [allW] using h) hA
  have hAs : A.length ≤ s.size := by
    obtain ⟨_, h2, _, _⟩ := dots2 hD
    have := cut_len 46 s.data.toList
    rw [h2, size_len] at this; omega
  clear hn hB hA hD hna
  go_enter Tryz.func56, Tryz.ntmps56
  go_wp2_with fail
  refine (C1.out _).mono ?_
  rintro e w1 ⟨v, rfl, hr, hb⟩
  obtain ⟨b, off, cap, rfl, hl, hm, c0, c1⟩ := two_cells hr
  have hblt : b < w1.heap.size := cell_lt c1
  obtain ⟨cap', o, hconv, hlo⟩ := conv_made (bs A) w1
  rw [bs_data] at hlo
  have hsz : (bs A).size = A.length := bs_size A
  rw [hsz] at hconv
  have HL := hide hlo
  have c1' : Hid ((w1.drew.alloc o).cell? ⟨b, off + 1, none⟩ = some (.string (bs B))) := by
    show (w1.drew.alloc o).cell? ⟨b, off + 1, none⟩ = _
    rw [hlo.below.cell (p := ⟨b, off + 1, none⟩) hblt]; exact c1
  have HB := hide (hb.trans (hlo.below.mono hb.size))
  clear hr hb hlo
  go_wp2
  clear hconv c0 c1
  go_loopw [7, 8, 9, 47] (fun nv _ _ iv wr => ∃ k N : Nat, k ≤ A.length ∧ iv = .int .i64 k ∧ nv = .int .i64 N ∧ Hid (NumC A k N) ∧ Lo w1 w1.heap.size A wr ∧ wr.cell? ⟨b, off + 1, none⟩ = some (.string (bs B)) ∧ Below w.heap.size w wr) (fun _ _ _ iv _ => A.length - (intOf iv).toNat)
  case atStart => exact ⟨0, 0, Nat.zero_le _, rfl, rfl, .inl ⟨rfl, rfl⟩, HL.out, c1'.out, HB.out⟩
  case round =>
    obtain ⟨k, N, hk, rfl, rfl, HN, hlo, c1, hb⟩ := hrel
    obtain ⟨hk2, hN99⟩ := num_small HN.out
    by_cases hlt : k < A.length
    · have d1 := hlo.cell k hlt
      obtain ⟨cv, hcv⟩ : ∃ cv : Nat, cv = (A[k]).toNat := ⟨_, rfl⟩
      rw [← hcv] at d1
      have hc256 : cv < 256 := by rw [hcv]; exact (A[k]).toNat_lt
      have HC := hide hcv
      have HLo := hide hlo
      have HBl := hide hb
      clear hcv hlo hb
      by_cases g1 : cv < 48
      · have HX := hide (num_bad HN.out hlt (.inl (.inl (by rw [← HC.out]; exact g1))))
        go_wp2
        refine bodyPost_ret (res4 rfl rfl rfl rfl rfl) rfl ?_
        exact ⟨ret_any (by rw [HT.out, HX.out]; rfl), HBl.out⟩
      by_cases g2 : 57 < cv
      · have HX := hide (num_bad HN.out hlt (.inl (.inr (by rw [← HC.out]; exact g2))))
        go_wp2
        refine bodyPost_ret (res4 rfl rfl rfl rfl rfl) rfl ?_
        exact ⟨ret_any (by rw [HT.out, HX.out]; rfl), HBl.out⟩
      by_cases g3 : k = 0 ∧ cv = 48
      · obtain ⟨rfl, g4⟩ := g3
        have HX := hide (num_bad HN.out hlt (.inr (.inl ⟨rfl, by rw [← HC.out]; exact g4⟩)))
        have gb : ((cv : Int) == 48) = true := by rw [g4]; rfl
        clear g4
        go_wp2
        refine bodyPost_ret (res4 rfl rfl rfl rfl rfl) rfl ?_
        exact ⟨ret_any (by rw [HT.out, HX.out]; rfl), HBl.out⟩
      by_cases g5 : 1 < k
      · have HX := hide (num_bad HN.out hlt (.inr (.inr g5)))
        have gb : ((k : Int) == 0) = false := by simp; omega
        go_wp2
        refine bodyPost_ret (res4 rfl rfl rfl rfl rfl) rfl ?_
        exact ⟨ret_any (by rw [HT.out, HX.out]; rfl), HBl.out⟩
      · have HX := hide (num_next HN.out hlt (by rw [← HC.out]; omega) (by rw [← HC.out]; omega) (fun e => by rw [← HC.out]; exact fun e2 => g3 ⟨e, e2⟩) (by omega))
        rw [← HC.out] at HX
        have e10 : ((10 * N + (cv - 48) : Nat) : Int) = 10 * (N : Int) + ((cv : Int) - 48) := by omega
        replace e10 := hide e10
        by_cases hk0 : k = 0
        · subst hk0
          have gb : ((cv : Int) == 48) = false := by simp; omega
          clear g3
          go_wp2
          exact ⟨⟨0 + 1, 10 * N + (cv - 48), by omega, by go_num, by rw [e10.out], HX.out, HLo.out, c1, HBl.out⟩, by simp [intOf]; omega⟩
        · have gb : ((k : Int) == 0) = false := by simp; omega
          clear g3
          go_wp2
          exact ⟨⟨k + 1, 10 * N + (cv - 48), by omega, by go_num, by rw [e10.out], HX.out, HLo.out, c1, HBl.out⟩, by simp [intOf]; omega⟩
    · have HLo := hide hlo
      have HBl := hide hb
      clear hlo hb
      rcases num_end HN.out (by omega) with ⟨hz, hx⟩ | ⟨hz, hx⟩
      · subst hz
        have HX := hide hx
        clear hx
        go_wp2
        refine bodyPost_ret (res4 rfl rfl rfl rfl rfl) rfl ?_
        exact ⟨ret_any (by rw [HT.out, HX.out]; rfl), HBl.out⟩
      · have HX := hide hx
        have gz : ((N : Int) == 0) = false := by simp; omega
        clear hx hz
        go_wp2
        go_region
        all_goals go_wp2
        all_goals refine bodyPost_ret (res4 rfl rfl rfl rfl rfl) rfl ?_
        all_goals exact ⟨ret_any (by rw [HT.out, HX.out]; rfl), below_drewN HBl.out 1⟩

theorem refnoun_any (s : ByteArray) (w : World) (hs : s.size ≤ 8796093022207) :
    Calls Tryz.prog 56 #[.string s] w fun e w' => e = .returned (nounA (nounL s.data.toList)) ∧ Below w.heap.size w w' := by
  cases ha : (s.toList == [97, 108, 108])
  · match hD : dotsL 46 s.data.toList with
    | [] => exact absurd hD (dots_ne _ _)
    | [x] => exact refnoun_short s w hs ha x hD
    | [A, B] =>
      by_cases hB : B = []
      · exact refnoun_two s w hs ha A B hD (.inl hB)
      by_cases hA : A = allW
      · exact refnoun_two s w hs ha A B hD (.inr ⟨hB, hA⟩)
      · exact refnoun_num s w hs ha A B hD hB hA
    | A :: B :: C :: r => exact refnoun_long s w hs ha A B C r hD
  · exact split_all s w hs ha
end Go.Proofs.YtaifjndkgfffpaaGreatDoor
