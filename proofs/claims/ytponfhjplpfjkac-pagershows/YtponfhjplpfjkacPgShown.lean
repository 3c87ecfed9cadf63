/-
  The contract of shown of package pager.
-/
import Derived.Test.YtponfhjplpfjkacPgTell
import Derived.Test.YtponfhjplpfjkacPgEsc
namespace Go.Proofs.Ytponfhjplpfjkac
open Go.RowKit
set_option linter.unusedVariables false

def crlf : ByteArray := ⟨#[13, 10]⟩
def lineB (f : ByteArray) : ByteArray := esc f ++ crlf

theorem line_size (f : ByteArray) (h : f.size ≤ 1048576) : (lineB f).size ≤ 2097154 := by
  have := esc_size f
  unfold lineB
  rw [ByteArray.size_append]
  have : crlf.size = 2 := rfl
  omega

/-- The page with the first line that waits sent. -/
def shownP (P : Pg) (f : ByteArray) (r : List ByteArray) : Pg := sentP { P with wait := r, shown := min (P.shown + 1) 200 } (lineB f)

theorem Two.drew {w wr : World} {P : Pg} {v : Value} (h : Two w P v wr) : Two w P v wr.drew := h.behind (Below.refl wr.heap.size wr).drew (Nat.le_refl _)

theorem reads_head {w : World} {v : Value} {f : ByteArray} {r : List ByteArray} (h : Reads w v (f :: r)) :
    ∃ g off cap, v = .slice (some ⟨g, off, none⟩) (r.length + 1) cap ∧ w.cell? ⟨g, off, none⟩ = some (.string f) ∧ r.length + 1 ≤ cap := by
  obtain ⟨av, cap, rfl, hl, hm, hn, hc⟩ := h
  obtain ⟨g, off, rfl, hcell⟩ := hc (by simp)
  exact ⟨g, off, cap, rfl, by have := hcell 0 (by simp); simp only [Nat.add_zero, List.getElem_cons_zero] at this; exact this, hl⟩

def tailA (g off cap : Nat) : Option Addr := if cap = 1 then some ⟨g, off, none⟩ else some ⟨g, off + 1, none⟩

theorem tail_one {g off cap : Nat} (h : cap = 1) : tailA g off cap = some ⟨g, off, none⟩ := by simp [tailA, h]
theorem tail_more {g off cap : Nat} (h : ¬ cap = 1) : tailA g off cap = some ⟨g, off + 1, none⟩ := by simp [tailA, h]

set_option maxRecDepth 100000 in
set_option maxHeartbeats 1000000 in
theorem shown_one (P : Pg) (f : ByteArray) (g off : Nat) (w : World) (hc0 : w.cell? ⟨g, off, none⟩ = some (.string f))  (hs : P.ring.size ≤ 140737488355328) (h0 : 0 ≤ P.shown) (h2 : P.shown ≤ 200) (hf : f.size ≤ 1048576) :
    Calls Try.prog 22 #[.agg (P.cells (.slice (some ⟨g, off, none⟩) 1 1))] w fun e w' => e = .returned (.agg ((shownP P f []).cells (.slice (some ⟨g, off, none⟩) 0 0))) ∧ Below w.heap.size w w' := by
  have hglt := cell_lt hc0
  simp only at hglt
  have hT := two_new (w := w) (P := P) (v := .slice (some ⟨g, off, none⟩) 1 1)
  have CE := hide (fun w' => escape_any f w' hf)
  have CS := hide (fun w' => sent_any { P with wait := [], shown := min (P.shown + 1) 200 } (lineB f) (some ⟨g, off, none⟩) 0 0 w' hs (by have := line_size f hf; unfold maxLen; omega))
  have hsz := esc_size f
  have hmn : ∀ (w : World) ts t, (Builtin.min_ ts t #[.int .i64 (P.shown + 1), .int .i64 200]).run Try.prog w = .ok (.int .i64 (min (P.shown + 1) 200)) w := fun w ts t => by
    rw [run_min_int2]; congr 2; split <;> omega
  have HE : Hid (shownP P f [] = sentP { P with wait := [], shown := min (P.shown + 1) 200 } (lineB f)) := hide rfl
  generalize shownP P f [] = R at HE ⊢
  generalize hmm : min (P.shown + 1) 200 = m at CS hmn HE
  rw [← HE.out] at CS
  clear HE hmm
  have hmax : P.shown + 1 ≤ 9223372036854775807 := by omega
  have hadd : ¬ 9223372036854775807 < (esc f).size + 2 := by omega
  replace hT := hide hT
  unfold Pg.cells lineB crlf at CS
  unfold Pg.cells
  go_enter Try.func22, Try.ntmps22
  go_upto_region 2 with fail
  go_cut [] (fun wc => Two w { P with wait := [] } (.slice (some ⟨g, off, none⟩) 0 0) wc)
  case first =>
    go_wp2_with fail
    go_meet
    exact two_new (P := { P with wait := [] })
  case rest =>
    obtain ⟨c0, c1, c2, c3, c4, hfz⟩ := hcut.cod.all
    have hI := hcut.put (P' := { P with wait := [], shown := m }) (v' := .slice (some ⟨g, off, none⟩) 0 0) 1 (.int .i64 m) (by simp [Pg.cells])
    have hz := hcut.room
    simp only at c0 c1 c2 c3 c4
    replace hI := hide hI
    clear hcut hT hc0 hglt
    dsimp only at CS
    go_upto_region 4 with fail
    clear c0 c1 c2 c3 c4 hfz hz hmn
    generalize wc.setCell _ _ = wd at hI ⊢
    have hId := hI.out.drew
    obtain ⟨c0, c1, c2, c3, c4, hfz⟩ := hI.out.cod.all
    replace hId := hide hId
    clear hI
    simp only at c0 c1 c2 c3 c4
    go_region_with (first | (go_at_call 9; refine (CE.out _).mono ?_; rintro e w3 ⟨rfl, hb3⟩; have hi3 := hId.out.behind hb3 (Nat.le_refl _); obtain ⟨e0, e1, e2, e3, e4, efz⟩ := hi3.cod.all; replace hi3 := hide hi3) | (go_at_call 34; refine (CS.out _).mono ?_; rintro e w4 ⟨rfl, hb4⟩; have hi4 := hi3.out.behind hb4 (Nat.le_refl _); obtain ⟨d0, d1, d2, d3, d4, dfz⟩ := hi4.other.all; have hz4 := hi4.room; replace hi4 := hide hi4))
    all_goals go_wp2
    all_goals obtain ⟨f1, f3⟩ := hi4.out.done (P' := R) (v' := .slice (some ⟨g, off, none⟩) 0 0)
    all_goals exact bodyPost_ret (res1 Try.results22 rfl f1) rfl ⟨rfl, f3⟩

set_option maxRecDepth 100000 in
set_option maxHeartbeats 1000000 in
theorem shown_more (P : Pg) (f : ByteArray) (r : List ByteArray) (g off cap : Nat) (w : World) (hc0 : w.cell? ⟨g, off, none⟩ = some (.string f)) (hlc : r.length + 1 ≤ cap) (hcap : ¬ cap = 1) (hs : P.ring.size ≤ 140737488355328) (h0 : 0 ≤ P.shown) (h2 : P.shown ≤ 200) (hf : f.size ≤ 1048576) :
    Calls Try.prog 22 #[.agg (P.cells (.slice (some ⟨g, off, none⟩) (r.length + 1) cap))] w fun e w' => e = .returned (.agg ((shownP P f r).cells (.slice (some ⟨g, off + 1, none⟩) r.length (cap - 1)))) ∧ Below w.heap.size w w' := by
  have hglt := cell_lt hc0
  simp only at hglt
  have hT := two_new (w := w) (P := P) (v := .slice (some ⟨g, off, none⟩) (r.length + 1) cap)
  have CE := hide (fun w' => escape_any f w' hf)
  have CS := hide (fun w' => sent_any { P with wait := r, shown := min (P.shown + 1) 200 } (lineB f) (some ⟨g, off + 1, none⟩) r.length (cap - 1) w' hs (by have := line_size f hf; unfold maxLen; omega))
  have hsz := esc_size f
  have hmn : ∀ (w : World) ts t, (Builtin.min_ ts t #[.int .i64 (P.shown + 1), .int .i64 200]).run Try.prog w = .ok (.int .i64 (min (P.shown + 1) 200)) w := fun w ts t => by
    rw [run_min_int2]; congr 2; split <;> omega
  have HE : Hid (shownP P f r = sentP { P with wait := r, shown := min (P.shown + 1) 200 } (lineB f)) := hide rfl
  generalize shownP P f r = R at HE ⊢
  generalize hmm : min (P.shown + 1) 200 = m at CS hmn HE
  rw [← HE.out] at CS
  clear HE hmm
  have hmax : P.shown + 1 ≤ 9223372036854775807 := by omega
  have hadd : ¬ 9223372036854775807 < (esc f).size + 2 := by omega
  replace hT := hide hT
  unfold Pg.cells lineB crlf at CS
  unfold Pg.cells
  go_enter Try.func22, Try.ntmps22
  go_upto_region 2 with fail
  go_cut [] (fun wc => Two w { P with wait := r } (.slice (some ⟨g, off + 1, none⟩) r.length (cap - 1)) wc)
  case first =>
    go_wp2_with fail
    go_meet
    exact two_new (P := { P with wait := r })
  case rest =>
    obtain ⟨c0, c1, c2, c3, c4, hfz⟩ := hcut.cod.all
    have hI := hcut.put (P' := { P with wait := r, shown := m }) (v' := .slice (some ⟨g, off + 1, none⟩) r.length (cap - 1)) 1 (.int .i64 m) (by simp [Pg.cells])
    have hz := hcut.room
    simp only at c0 c1 c2 c3 c4
    replace hI := hide hI
    clear hcut hT hc0 hglt
    dsimp only at CS
    go_upto_region 4 with fail
    clear c0 c1 c2 c3 c4 hfz hz hmn
    generalize wc.setCell _ _ = wd at hI ⊢
    have hId := hI.out.drew
    obtain ⟨c0, c1, c2, c3, c4, hfz⟩ := hI.out.cod.all
    replace hId := hide hId
    clear hI
    simp only at c0 c1 c2 c3 c4
    go_region_with (first | (go_at_call 9; refine (CE.out _).mono ?_; rintro e w3 ⟨rfl, hb3⟩; have hi3 := hId.out.behind hb3 (Nat.le_refl _); obtain ⟨e0, e1, e2, e3, e4, efz⟩ := hi3.cod.all; replace hi3 := hide hi3) | (go_at_call 34; refine (CS.out _).mono ?_; rintro e w4 ⟨rfl, hb4⟩; have hi4 := hi3.out.behind hb4 (Nat.le_refl _); obtain ⟨d0, d1, d2, d3, d4, dfz⟩ := hi4.other.all; have hz4 := hi4.room; replace hi4 := hide hi4))
    all_goals go_wp2
    all_goals obtain ⟨f1, f3⟩ := hi4.out.done (P' := R) (v' := .slice (some ⟨g, off + 1, none⟩) r.length (cap - 1))
    all_goals exact bodyPost_ret (res1 Try.results22 rfl f1) rfl ⟨rfl, f3⟩
end Go.Proofs.Ytponfhjplpfjkac
