/-
  Plain mathematics of PagerShows: what comes of lines that are shown a page at a time.
-/
import Derived.Test.YtponfhjplpfjkacPgShows
namespace Go.Proofs.Ytponfhjplpfjkac
open Go.RowKit
set_option linter.unusedVariables false

/-- Lines as they are sent. -/
def wantL : List ByteArray → ByteArray
  | [] => ⟨#[]⟩
  | f :: r => lineB f ++ wantL r

theorem empty_app (s : ByteArray) : (⟨#[]⟩ : ByteArray) ++ s = s := ByteArray.empty_append
theorem app_empty (s : ByteArray) : s ++ (⟨#[]⟩ : ByteArray) = s := ByteArray.append_empty

theorem wantL_app (a b : List ByteArray) : wantL (a ++ b) = wantL a ++ wantL b := by
  induction a with
  | nil => simp only [List.nil_append, wantL, empty_app]
  | cons f r ih => simp only [List.cons_append, wantL, ih, ByteArray.append_assoc]

theorem wantL_one (f : ByteArray) : wantL [f] = lineB f := by simp only [wantL, app_empty]

theorem want_size (q : List ByteArray) (h : ∀ s ∈ q, s.size ≤ 40) : (wantL q).size ≤ 82 * q.length := by
  induction q with
  | nil => simp [wantL, ByteArray.size]
  | cons f r ih =>
    have h1 := ih (fun s hs => h s (List.mem_cons_of_mem _ hs))
    have h2 := h f (List.mem_cons_self ..)
    have h3 : (lineB f).size ≤ 2 * f.size + 2 := by
      have := esc_size f
      unfold lineB
      rw [ByteArray.size_append]
      have : crlf.size = 2 := rfl
      omega
    simp only [wantL, ByteArray.size_append, List.length_cons]
    omega

/-- How Flow ends: cut; at a page's end; all is shown. -/
def Ends (h : Int) (q : List ByteArray) (R : ByteArray) (n : Int) (Q : Pg) : Prop :=
  (Q.cut = true ∧ 688 < R.size + (wantL q).size) ∨
  (∃ d r : List ByteArray, q = d ++ r ∧ r ≠ [] ∧ Q.cut = false ∧ Q.asking = true ∧ Q.wait = r ∧ Q.ring = R ++ wantL d ++ moreB ∧ h ≠ 0 ∧ h ≤ n + d.length) ∨
  (Q.cut = false ∧ Q.asking = false ∧ Q.wait = [] ∧ Q.ring = R ++ wantL q)

section
variable {h : Int} {q : List ByteArray} {R : ByteArray} {n : Int} {Q : Pg}
theorem Ends.cut (hc : Q.cut = true) (hs : 688 < R.size + (wantL q).size) : Ends h q R n Q := .inl ⟨hc, hs⟩
theorem Ends.page (d r : List ByteArray) (hq : q = d ++ r) (hr : r ≠ []) (hc : Q.cut = false) (ha : Q.asking = true) (hw : Q.wait = r) (hg : Q.ring = R ++ wantL d ++ moreB) (hh : h ≠ 0) (hn : h ≤ n + d.length) : Ends h q R n Q :=
  .inr (.inl ⟨d, r, hq, hr, hc, ha, hw, hg, hh, hn⟩)
theorem Ends.all (hc : Q.cut = false) (ha : Q.asking = false) (hw : Q.wait = []) (hg : Q.ring = R ++ wantL q) : Ends h q R n Q := .inr (.inr ⟨hc, ha, hw, hg⟩)
end

theorem more_size : moreB.size = 12 := rfl

theorem ends_flow (h : Int) (q : List ByteArray) : ∀ (P : Pg), P.asking = false → P.cut = false → P.wait = q → Ends h q P.ring P.shown (flowL h q P) := by
  induction q with
  | nil => intro P ha hc hw; exact .all hc ha hw (by simp only [wantL, app_empty, flowL])
  | cons f r ih =>
    intro P ha hc hw
    simp only [flowL, ha, hc]
    rw [if_neg (by simp)]
    split
    · rename_i hh
      unfold askedP sentP
      dsimp only
      rw [more_size]
      split
      · rename_i h7
        refine .cut rfl ?_
        have : 0 ≤ (wantL (f :: r)).size := Nat.zero_le _
        omega
      · refine .page [] (f :: r) rfl (by simp) hc rfl hw ?_ hh.1 (by simpa using hh.2)
        simp only [wantL, app_empty]
    · rename_i hh
      by_cases h7 : 700 < P.ring.size + (lineB f).size
      · have e : shownP P f r = { P with wait := r, shown := min (P.shown + 1) 200, cut := true } := by
          unfold shownP sentP; dsimp only; rw [if_pos h7]
        have hx : flowL h r (shownP P f r) = shownP P f r := by
          cases r with
          | nil => rfl
          | cons g r => simp only [flowL]; rw [if_pos (.inr (by rw [e]))]
        rw [hx]
        refine .cut (by rw [e]) ?_
        simp only [wantL, ByteArray.size_append]
        omega
      · have e : shownP P f r = { P with wait := r, shown := min (P.shown + 1) 200, ring := P.ring ++ lineB f } := by
          unfold shownP sentP; dsimp only; rw [if_neg h7]
        have hk := ih (shownP P f r) (by rw [e]; exact ha) (by rw [e]; exact hc) (by rw [e])
        have e1 : (shownP P f r).ring = P.ring ++ lineB f := by rw [e]
        have e2 : (shownP P f r).shown = min (P.shown + 1) 200 := by rw [e]
        rw [e1, e2] at hk
        rcases hk with ⟨hc, hs⟩ | ⟨d, r', hq, hr, hc, ha, hw, hg, hh, hn⟩ | ⟨hc, ha, hw, hg⟩
        · refine .cut hc ?_; simp only [wantL, ByteArray.size_append] at hs ⊢; omega
        · refine .page (f :: d) r' (by rw [hq]; rfl) hr hc ha hw ?_ hh ?_
          · rw [hg]; simp only [wantL, ByteArray.append_assoc]
          · simp only [List.length_cons]; omega
        · exact .all hc ha hw (by rw [hg]; simp only [wantL, ByteArray.append_assoc])

/-- What stands at a round's head: d is shown, the rest waits. -/
structure Rel (q : List ByteArray) (h : Nat) (P : Pg) (n : Nat) (d : List ByteArray) : Prop where
  split : q = d ++ P.wait
  asking : P.asking = false
  cut : P.cut = false
  ring : P.ring = ⟨#[]⟩
  shown : P.wait ≠ [] → P.shown = 0
  none : h = 0 → n = 0
  some : n * h ≤ d.length

theorem ok_flow (h : Int) (q : List ByteArray) : ∀ (P : Pg), P.wait = q → Ok P → Ok (flowL h q P) := by
  induction q with
  | nil => intro P hw ho; exact ho
  | cons f r ih =>
    intro P hw ho
    simp only [flowL]
    split
    · exact ho
    · split
      · exact ok_asked ho
      · exact ih _ (by unfold shownP; rw [sent_wait]) (ok_shown ho hw)

def qp (q : List ByteArray) : Pg := { wait := q, shown := 0, asking := false, ring := ⟨#[]⟩, cut := false }

theorem good_qp (q : List ByteArray) (h : q.length ≤ 60) : goodP (qp q) = true := by
  simp [goodP, qp, gheight, ByteArray.size, h]

theorem small_qp (q : List ByteArray) (h : q.length ≤ 60) : Small (qp q) :=
  small_of (qp q) (show (ByteArray.mk #[]).size ≤ 700 by decide) (show (0 : Int) ≤ 0 by decide) (show (0 : Int) ≤ 200 by decide) h

theorem ok_qp (q : List ByteArray) (h : q.length ≤ 60) (ha : ∀ s ∈ q, s.size ≤ 40) : Ok (qp q) :=
  ⟨show (ByteArray.mk #[]).size ≤ 700 by decide, show (0 : Int) ≤ 0 by decide, show (0 : Int) ≤ 200 by decide, h, fun s hs => by have := ha s hs; omega⟩

theorem flow_step (q : List ByteArray) (h : Nat) (u : Value) (w : World) (hv : Reads w u q) (hh : (h : Int) < 201) (hl : q.length ≤ 60) (ha : ∀ s ∈ q, s.size ≤ 40) :
    Calls Try.prog 10 #[.agg ((qp q).cells u), .int .i64 h] w fun e w' => ∃ (Q : Pg) (v' : Value), e = .returned (.tuple #[.agg (Q.cells v'), .int .i64 0]) ∧ Ends h q ⟨#[]⟩ 0 Q ∧ Ok Q ∧ Reads w' v' Q.wait ∧ Far (w.heap.size + 2) v' ∧ Below w.heap.size w w' := by
  have hg : flowG (qp q) h = true := by
    unfold flowG
    rw [good_qp q hl]
    simp [gheight]; omega
  have hf := flow_any (qp q) h u w hv (small_qp q hl) (fun _ s hs => by have := ha s hs; omega)
  have e1 : flowR (qp q) h = flowL h q (qp q) := by unfold flowR; rw [if_pos hg]; rfl
  have e2 : flowE (qp q) h = 0 := by unfold flowE; rw [if_pos hg]
  rw [e1, e2] at hf
  exact hf.mono fun e w' ⟨v', h1, h2, h3, h4⟩ => ⟨_, v', h1, ends_flow h q (qp q) rfl rfl rfl, ok_flow h q (qp q) rfl (ok_qp q hl ha), h2, h3, h4⟩

theorem take_step (Q : Pg) (u : Value) (w : World) (hv : Reads w u Q.wait) (ho : Ok Q) :
    Calls Try.prog 11 #[.agg (Q.cells u), .int .i64 (Q.ring.size : Int)] w fun e w' => ∃ (v' : Value) (s : ByteArray), e = .returned (.tuple #[.agg (({ Q with ring := ⟨#[]⟩ } : Pg).cells v'), .string s]) ∧ Reads w' v' Q.wait ∧ Far (w.heap.size + 2) v' ∧ Below w.heap.size w w' := by
  have hk : kOf Q Q.ring.size = Q.ring.size := by unfold kOf; omega
  have he : takeP Q Q.ring.size = { Q with ring := ⟨#[]⟩ } := by
    unfold takeP
    rw [hk]
    have : Q.ring.extract Q.ring.size Q.ring.size = ⟨#[]⟩ := by
      apply ByteArray.ext
      simp
    rw [this]
  have hf := take_any Q Q.ring.size u w hv (small_of Q ho.ring ho.lo ho.hi ho.len)
  rw [he] at hf
  exact hf.mono fun e w' ⟨v', h1, h2, h3, h4⟩ => ⟨v', _, h1, h2, h3, h4⟩
end Go.Proofs.Ytponfhjplpfjkac
