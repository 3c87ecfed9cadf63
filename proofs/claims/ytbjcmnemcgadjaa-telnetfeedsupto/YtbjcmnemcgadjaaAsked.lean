/-
  The contract of asked of the document's own answer, at every verb and option.
-/
import Derived.Test.YtbjcmnemcgadjaaAskB
import Derived.Test.YtbjcmnemcgadjaaAskC
import Derived.Test.YtbjcmnemcgadjaaAskD
import Derived.Test.YtbjcmnemcgadjaaAskE
namespace Go.Proofs.Ytbjcmnemcgadjaa
open Go.RowKit
set_option linter.unusedVariables false

def askd (t : Tel) (v o : Int) : Tel × List UInt8 :=
  if v = 253 then
    if o = 1 then ({ t with u0 := 1 }, if t.u0 = 0 then sayL 251 1 else [])
    else if o = 3 then ({ t with u1 := 1 }, if t.u1 = 0 then sayL 251 3 else [])
    else (t, sayL 252 o)
  else if v = 254 then
    if o = 1 then ({ t with u0 := 0 }, if t.u0 = 1 then sayL 252 1 else [])
    else if o = 3 then ({ t with u1 := 0 }, if t.u1 = 1 then sayL 252 3 else [])
    else (t, [])
  else if v = 251 then
    if o = 3 then ({ t with t1 := 1 }, if t.t1 = 0 then sayL 253 3 else [])
    else if o = 31 then ({ t with t2 := 1 }, if t.t2 = 0 then sayL 253 31 else [])
    else (t, sayL 254 o)
  else if v = 252 then
    if o = 3 then ({ t with t1 := 0 }, if t.t1 = 1 then sayL 254 3 else [])
    else if o = 31 then ({ t with t2 := 0 }, if t.t2 = 1 then sayL 254 31 else [])
    else (t, [])
  else (t, [])

theorem askd_setl (t : Tel) (o : Int) : ({ (askd t t.verb o).1 with pos := 0, verb := 0 } : Tel) = (setl t o).1 ∧ (askd t t.verb o).2 = (setl t o).2 := by
  unfold askd setl
  repeat' split
  all_goals exact ⟨rfl, rfl⟩

theorem asked_any (t : Tel) (v o : Int) (w : World) (hv : 251 ≤ v) (hv' : v ≤ 254) (h0 : 0 ≤ o) (h255 : o ≤ 255) :
    Calls Try.prog 27 #[t.val, .int .i64 v, .int .i64 o] w fun e w' => e = .returned (.tuple #[(askd t v o).1.val, .string ⟨(askd t v o).2.toArray⟩]) ∧ Below w.heap.size w w' := by
  have hf : v = 253 ∨ v = 254 ∨ v = 251 ∨ v = 252 := by omega
  unfold askd
  rcases hf with rfl | rfl | rfl | rfl
  · rw [if_pos rfl]
    by_cases h1 : o = 1
    · subst h1
      rw [if_pos rfl]
      by_cases hn : t.u0 = 0
      · rw [if_pos hn]; exact asked_1_253_a t w hn
      · rw [if_neg hn]; exact asked_1_253_n t w (by simpa using hn)
    by_cases h2 : o = 3
    · subst h2
      rw [if_neg h1, if_pos rfl]
      by_cases hn : t.u1 = 0
      · rw [if_pos hn]; exact asked_3_253_a t w hn
      · rw [if_neg hn]; exact asked_3_253_n t w (by simpa using hn)
    rw [if_neg h1, if_neg h2]
    by_cases h3 : o = 31
    · subst h3
      exact asked_31_253 t w
    · exact asked_x_253 t w o (by omega) (by omega) (by omega) h0 h255
  · rw [if_neg (by omega), if_pos rfl]
    by_cases h1 : o = 1
    · subst h1
      rw [if_pos rfl]
      by_cases hn : t.u0 = 1
      · rw [if_pos hn]; exact asked_1_254_a t w hn
      · rw [if_neg hn]; exact asked_1_254_n t w (by simpa using hn)
    by_cases h2 : o = 3
    · subst h2
      rw [if_neg h1, if_pos rfl]
      by_cases hn : t.u1 = 1
      · rw [if_pos hn]; exact asked_3_254_a t w hn
      · rw [if_neg hn]; exact asked_3_254_n t w (by simpa using hn)
    rw [if_neg h1, if_neg h2]
    by_cases h3 : o = 31
    · subst h3
      exact asked_31_254 t w
    · exact asked_x_254 t w o (by omega) (by omega) (by omega) h0 h255
  · rw [if_neg (by omega), if_neg (by omega), if_pos rfl]
    by_cases h1 : o = 3
    · subst h1
      rw [if_pos rfl]
      by_cases hn : t.t1 = 0
      · rw [if_pos hn]; exact asked_3_251_a t w hn
      · rw [if_neg hn]; exact asked_3_251_n t w (by simpa using hn)
    by_cases h2 : o = 31
    · subst h2
      rw [if_neg h1, if_pos rfl]
      by_cases hn : t.t2 = 0
      · rw [if_pos hn]; exact asked_31_251_a t w hn
      · rw [if_neg hn]; exact asked_31_251_n t w (by simpa using hn)
    rw [if_neg h1, if_neg h2]
    by_cases h3 : o = 1
    · subst h3
      exact asked_1_251 t w
    · exact asked_x_251 t w o (by omega) (by omega) (by omega) h0 h255
  · rw [if_neg (by omega), if_neg (by omega), if_neg (by omega), if_pos rfl]
    by_cases h1 : o = 3
    · subst h1
      rw [if_pos rfl]
      by_cases hn : t.t1 = 1
      · rw [if_pos hn]; exact asked_3_252_a t w hn
      · rw [if_neg hn]; exact asked_3_252_n t w (by simpa using hn)
    by_cases h2 : o = 31
    · subst h2
      rw [if_neg h1, if_pos rfl]
      by_cases hn : t.t2 = 1
      · rw [if_pos hn]; exact asked_31_252_a t w hn
      · rw [if_neg hn]; exact asked_31_252_n t w (by simpa using hn)
    rw [if_neg h1, if_neg h2]
    by_cases h3 : o = 1
    · subst h3
      exact asked_1_252 t w
    · exact asked_x_252 t w o (by omega) (by omega) (by omega) h0 h255

theorem more_world {w w3 : World} {b : Nat} {t : Tel} {o : Obj} (h : Cod w b t) (hb3 : Below ((w.alloc o).drew).heap.size ((w.alloc o).drew) w3) : Cod w3 b t ∧ w.grownBy w3 (some b) := by
  have z := h.lt
  have hz : w.heap.size < ((w.alloc o).drew).heap.size := by simp
  exact ⟨cod_mk (cod_below (cod_drew (cod_alloc h o)) hb3 (by omega)) rfl, grown_below (grown_drew (grown_alloc (grown_refl _ _) o)) hb3 (by omega)⟩

set_option maxRecDepth 100000 in
set_option maxHeartbeats 1000000 in
theorem more_any (t : Tel) (b g : Nat) (c : UInt8) (w : World) (h : Cod w b t) (hs : t.sub.size ≤ 16) (hg : w.cell? ⟨g, 0, none⟩ = some (.int .i64 c.toNat)) (hlt : g < w.heap.size) (hne : g ≠ b) :
    Calls Try.prog 25 #[.pointer (some ⟨b, 0, none⟩), .pointer (some ⟨g, 0, none⟩)] w fun e w' => e = .returned (.tuple #[]) ∧ Cod w' b (kp t c) ∧ w.grownBy w' (some b) := by
  obtain ⟨c0, c1, c2, c3, c4, c5, c6, c7, c8, c9, hfz⟩ := h.all
  have hbl := h.lt
  have hcl := c.toNat_lt
  by_cases h16 : t.sub.size < 16
  · have HC := hide (show kp t c = { t with sub := t.sub ++ ⟨#[c]⟩ } by unfold kp; rw [if_pos h16])
    have hcc : ¬ 9223372036854775807 < t.sub.size + 1 := by omega
    have he : UInt8.ofNat ((c.toNat : Nat) : Int).toNat = c := by simp
    have HB := hide (fun (W : World) (g' : Nat) (h1 : g' < W.heap.size) (h2 : W.cell? ⟨g', 0, none⟩ = some (.int .i64 c.toNat)) => bytesOf1 g' c.toNat (by omega) (by omega) W h1 h2)
    rw [he] at HB
    clear he
    go_enter Try.func25, Try.ntmps25
    go_wp2_with fail
    go_region_with (go_at_call 26; refine (HB.out _ _ ?_ ?_).mono ?_; (go_simp); (go_simp); rintro e w3 ⟨rfl, hb3⟩; obtain ⟨q3, l3⟩ := more_world h hb3; have z3 := q3.lt; obtain ⟨d0, d1, d2, d3, d4, d5, d6, d7, d8, d9, dfz⟩ := q3.all)
    all_goals go_wp2
    all_goals go_end0
    all_goals exact ⟨rfl, by rw [HC.out]; exact cod_mk (cod_set q3 _ _) rfl, grown_set l3 _ _⟩
  · have HC := hide (show kp t c = t by unfold kp; rw [if_neg h16])
    go_enter Try.func25, Try.ntmps25
    go_wp2
    go_end0
    exact ⟨rfl, by rw [HC.out]; exact h, grown_refl _ _⟩
end Go.Proofs.Ytbjcmnemcgadjaa
