/-
  Plain mathematics: one byte's step of the codec, and all bytes; that a good codec stays good.
-/
import Derived.Test.YtbjcmnemcgadjaaApp
namespace Go.Proofs.Ytbjcmnemcgadjaa
open Go.RowKit
set_option linter.unusedVariables false

/-- One byte: the codec behind it, what is text of it, what is answered. -/
def step (t : Tel) (c : UInt8) : Tel × List UInt8 × List UInt8 :=
  if t.pos = 0 then (if c = 255 then ({ t with pos := 1 }, [], []) else (t, [c], []))
  else if t.pos = 1 then (cmd t c.toNat, if c = 255 then [c] else [], [])
  else if t.pos = 2 then ((setl t c.toNat).1, [], (setl t c.toNat).2)
  else if t.pos = 3 then (if c = 255 then { t with pos := 4 } else kp t c, [], [])
  else (if c = 255 then kp { t with pos := 3 } c else fin t c, [], [])

def feedL : Tel → List UInt8 → Tel × List UInt8 × List UInt8
  | t, [] => (t, [], [])
  | t, c :: l => ((feedL (step t c).1 l).1, (step t c).2.1 ++ (feedL (step t c).1 l).2.1, (step t c).2.2 ++ (feedL (step t c).1 l).2.2)

theorem feedL_append (t : Tel) (a b : List UInt8) : feedL t (a ++ b) = ((feedL (feedL t a).1 b).1, (feedL t a).2.1 ++ (feedL (feedL t a).1 b).2.1, (feedL t a).2.2 ++ (feedL (feedL t a).1 b).2.2) := by
  induction a generalizing t with
  | nil => simp [feedL]
  | cons c a ih => simp only [List.cons_append, feedL, ih, List.append_assoc]

theorem feedL_snoc (t : Tel) (a : List UInt8) (c : UInt8) {T : Tel} {X Y : List UInt8} (h : feedL t a = (T, X, Y)) :
    feedL t (a ++ [c]) = ((step T c).1, X ++ (step T c).2.1, Y ++ (step T c).2.2) := by
  rw [feedL_append, h]; simp [feedL]

/-- What a good codec is, part by part. -/
structure Fine (t : Tel) : Prop where
  pos0 : 0 ≤ t.pos
  pos4 : t.pos ≤ 4
  sub16 : t.sub.size ≤ 16
  sub0 : t.pos < 3 → t.sub = ⟨#[]⟩
  verb2 : t.pos = 2 → 251 ≤ t.verb ∧ t.verb ≤ 254
  verb0 : t.pos ≠ 2 → t.verb = 0
  u0 : 0 ≤ t.u0 ∧ t.u0 ≤ 2
  u1 : 0 ≤ t.u1 ∧ t.u1 ≤ 2
  u2 : t.u2 = 0
  t0 : t.t0 = 0
  t1 : 0 ≤ t.t1 ∧ t.t1 ≤ 2
  t2 : 0 ≤ t.t2 ∧ t.t2 ≤ 2
  h0 : 0 ≤ t.height
  h200 : t.height ≤ 200

theorem empty_iff (s : ByteArray) : s.toList.isEmpty = false ↔ ¬ s = ⟨#[]⟩ := by
  obtain ⟨⟨l⟩⟩ := s
  have e : (ByteArray.mk ⟨l⟩).toList = l := by simp
  rw [e]
  cases l <;> simp

theorem gs_true (s : Int) : gs s true = true ↔ 0 ≤ s ∧ s ≤ 2 := by simp [gs]; omega
theorem gs_false (s : Int) : gs s false = true ↔ s = 0 := by simp [gs]

theorem fine_iff (t : Tel) : good t = true ↔ Fine t := by
  unfold good gopt gplace
  simp only [Bool.and_eq_true, gs_true, gs_false, decide_eq_true_eq]
  constructor
  · rintro ⟨⟨⟨hp, ⟨⟨⟨⟨h1, h2⟩, h3⟩, h4⟩, h5⟩, h6⟩, h7⟩, h8⟩
    split at hp
    · simp at hp
    · rename_i g1
      split at hp
      · simp at hp
      · rename_i g2
        rw [empty_iff] at g2
        have g1' : 0 ≤ t.pos ∧ t.pos ≤ 4 ∧ t.sub.size ≤ 16 := by omega
        refine ⟨g1'.1, g1'.2.1, g1'.2.2, fun h => Classical.byContradiction fun hn => g2 ⟨h, hn⟩, ?_, ?_, h1, h3, h5, h2, h4, h6, h7, h8⟩
        · intro h; rw [if_pos h] at hp; simpa using hp
        · intro h; rw [if_neg h] at hp; simpa using hp
  · intro f
    refine ⟨⟨⟨?_, ⟨⟨⟨⟨f.u0, f.t0⟩, f.u1⟩, f.t1⟩, f.u2⟩, f.t2⟩, f.h0⟩, f.h200⟩
    have a := f.pos0; have b := f.pos4; have c := f.sub16
    rw [if_neg (by omega), if_neg (by rw [empty_iff]; exact fun h => h.2 (f.sub0 h.1))]
    split
    · rename_i h; simpa using f.verb2 h
    · rename_i h; simpa using f.verb0 h

theorem fine_cmd {t : Tel} (f : Fine t) (hp : t.pos = 1) (c : Int) : Fine (cmd t c) := by
  have hs := f.sub0 (by omega)
  have hv := f.verb0 (by omega)
  unfold cmd
  split
  · exact ⟨by simp, by simp, by show (ByteArray.mk #[]).size ≤ 16; decide, by simp, by simp, by simp [hv], f.u0, f.u1, f.u2, f.t0, f.t1, f.t2, f.h0, f.h200⟩
  · split
    · rename_i h; exact ⟨by simp, by simp, f.sub16, fun _ => hs, fun _ => h, by simp, f.u0, f.u1, f.u2, f.t0, f.t1, f.t2, f.h0, f.h200⟩
    · exact ⟨by simp, by simp, f.sub16, fun _ => hs, by simp, by simp [hv], f.u0, f.u1, f.u2, f.t0, f.t1, f.t2, f.h0, f.h200⟩

theorem fine_set {t : Tel} (f : Fine t) (hs : t.sub = ⟨#[]⟩) (a b c d : Int) (ha : 0 ≤ a ∧ a ≤ 2) (hb : 0 ≤ b ∧ b ≤ 2) (hc : 0 ≤ c ∧ c ≤ 2) (hd : 0 ≤ d ∧ d ≤ 2) :
    Fine { t with pos := 0, verb := 0, u0 := a, u1 := b, t1 := c, t2 := d } :=
  ⟨by simp, by simp, f.sub16, fun _ => hs, by simp, by simp, ha, hb, f.u2, f.t0, hc, hd, f.h0, f.h200⟩

theorem fine_setl {t : Tel} (f : Fine t) (hp : t.pos = 2) (o : Int) : Fine (setl t o).1 := by
  have hs := f.sub0 (by omega)
  unfold setl
  repeat' split
  all_goals refine fine_set f hs _ _ _ _ ?_ ?_ ?_ ?_
  all_goals first | exact f.u0 | exact f.u1 | exact f.t1 | exact f.t2 | decide

theorem fine_kp {t : Tel} (f : Fine t) (hp : t.pos = 3) (c : UInt8) : Fine (kp t c) := by
  unfold kp
  split
  · rename_i h
    exact ⟨f.pos0, f.pos4, by show (t.sub ++ _).size ≤ 16; rw [ByteArray.size_append]; have h1 : (ByteArray.mk #[c]).size = 1 := rfl; omega, fun h => absurd h (by show ¬ t.pos < 3; omega), f.verb2, f.verb0, f.u0, f.u1, f.u2, f.t0, f.t1, f.t2, f.h0, f.h200⟩
  · exact f

theorem fine_pos {t : Tel} (f : Fine t) (p : Int) (hp : 3 ≤ t.pos) (h3 : 3 ≤ p) (h4 : p ≤ 4) : Fine { t with pos := p } := by
  have hv := f.verb0 (by omega)
  exact ⟨by show 0 ≤ p; omega, h4, f.sub16, fun h => absurd h (by show ¬ p < 3; omega), fun h => absurd h (by show ¬ p = 2; omega), fun _ => hv, f.u0, f.u1, f.u2, f.t0, f.t1, f.t2, f.h0, f.h200⟩

theorem fine_fin {t : Tel} (f : Fine t) (hp : t.pos = 4) (c : UInt8) : Fine (fin t c) := by
  have hv := f.verb0 (by omega)
  have a := f.h0; have b := f.h200
  refine ⟨by simp [fin], by simp [fin], by show (ByteArray.mk #[]).size ≤ 16; decide, by simp [fin], by simp [fin], fun _ => hv, f.u0, f.u1, f.u2, f.t0, f.t1, f.t2, ?_, ?_⟩
  · simp only [fin]; split <;> omega
  · simp only [fin]; split <;> omega

theorem fine_step {t : Tel} (f : Fine t) (c : UInt8) : Fine (step t c).1 := by
  unfold step
  split
  · rename_i hp
    have hs := f.sub0 (by omega)
    have hv := f.verb0 (by omega)
    split
    · exact ⟨by simp, by simp, f.sub16, fun _ => hs, by simp, fun _ => hv, f.u0, f.u1, f.u2, f.t0, f.t1, f.t2, f.h0, f.h200⟩
    · exact f
  · split
    · exact fine_cmd f (by assumption) _
    · split
      · exact fine_setl f (by assumption) _
      · split
        · rename_i hp
          split
          · exact fine_pos f 4 (by omega) (by omega) (by omega)
          · exact fine_kp f hp _
        · rename_i h0 h1 h2 h3
          have := f.pos0; have := f.pos4
          have hp : t.pos = 4 := by omega
          split
          · exact fine_kp (fine_pos f 3 (by omega) (by omega) (by omega)) rfl _
          · exact fine_fin f hp _

theorem fine_feed {t : Tel} (f : Fine t) (l : List UInt8) : Fine (feedL t l).1 := by
  induction l generalizing t with
  | nil => exact f
  | cons c l ih => exact ih (fine_step f c)

theorem setl_len (t : Tel) (o : Int) : (setl t o).2.length ≤ 3 := by
  unfold setl
  repeat' split
  all_goals simp [sayL]

theorem step_len (t : Tel) (c : UInt8) : (step t c).2.1.length ≤ 1 ∧ (step t c).2.2.length ≤ 3 := by
  unfold step
  repeat' split
  all_goals simp [setl_len]

theorem feed_len (t : Tel) (l : List UInt8) : (feedL t l).2.1.length ≤ l.length ∧ (feedL t l).2.2.length ≤ 3 * l.length := by
  induction l generalizing t with
  | nil => simp [feedL]
  | cons c l ih =>
    have h1 := step_len t c
    have h2 := ih (step t c).1
    simp only [feedL, List.length_append, List.length_cons]
    omega
end Go.Proofs.Ytbjcmnemcgadjaa
