/-
  The walk of the law TelnetEnds.
-/
import Derived.Test.YtchkohogfcgknaaPartsW
import Derived.Test.YtchkohogfcgknaaEndsP
import Derived.Deep.DeepCutAuto
namespace Go.Proofs.Ytchkohogfcgknaa
open Go.RowKit
set_option linter.unusedVariables false

set_option maxRecDepth 100000 in
set_option maxHeartbeats 2000000 in
theorem ends_else (t u : Tel) (v o : UInt8) (w : World) (hst : t.sub.size ≤ maxLen) (hsu : u.sub.size ≤ maxLen) (hno : good t = false ∨ (good t = true ∧ good u = false)) :
    Calls Try.prog 8 #[t.val, u.val, .int .u8 v.toNat, .int .u8 o.toNat] w fun e w' => e = .returned (.bool true) ∧ Below w.heap.size w w' := by
  unfold Tel.val Tel.cells
  rcases hno with hg | ⟨hg, hg2⟩
  · go_enter Try.func8, Try.ntmps8
    go_wp2_with fail
    refine (good_any t _ hst).mono ?_
    rintro e w1 ⟨rfl, hb1⟩
    go_wp2_with fail
    refine (feeds20 _).mono ?_
    rintro e w2 ⟨rfl, hb2⟩
    go_wp2
    go_ret
    have h1 := hb1.size
    simp at h1
    exact ⟨rfl, ((((Below.refl _ _).alloc (Nat.le_refl _) _).alloc (by simp) _).trans (hb1.mono (by simp; omega))).trans (hb2.mono (by omega))⟩
  · go_enter Try.func8, Try.ntmps8
    go_wp2_with fail
    refine (good_any t _ hst).mono ?_
    rintro e w1 ⟨rfl, hb1⟩
    have h1 := hb1.size
    simp at h1
    have l1 : Below w.heap.size w w1 := (((Below.refl _ _).alloc (Nat.le_refl _) _).alloc (by simp) _).trans (hb1.mono (by simp; omega))
    have k1 : Cod w1 (w.heap.size + 1) u := by
      have := heap_alloc_new (w.alloc (.cells t.cells 25)) (.cells u.cells 25)
      rw [World.size_alloc] at this
      unfold Cod; rw [hb1.block _ (by simp)]; exact this
    clear hb1
    obtain ⟨c0, c1, c2, c3, c4, c5, c6, c7, c8, c9, cfz⟩ := k1.all
    go_wp2_with fail
    refine (good_any u _ hsu).mono ?_
    rintro e w2 ⟨rfl, hb2⟩
    go_wp2_with fail
    refine (feeds20 _).mono ?_
    rintro e w3 ⟨rfl, hb3⟩
    go_wp2
    go_ret
    have h2 := hb2.size
    exact ⟨rfl, (l1.trans (hb2.mono (by omega))).trans (hb3.mono (by omega))⟩

theorem conv_cmd (v o : UInt8) (w : World) :
    (convert 36 9 (.slice (some ⟨w.heap.size, 0, none⟩) 3 3)).run Try.prog (w.alloc (.cells #[.int .u8 255, .int .u8 v.toNat, .int .u8 o.toNat] 5)) = .ok (.string ⟨#[255, v, o]⟩) (w.alloc (.cells #[.int .u8 255, .int .u8 v.toNat, .int .u8 o.toNat] 5)) := by
  have hv := v.toNat_lt
  have ho := o.toNat_lt
  have h := conv_say v.toNat o.toNat (by omega) (by omega) (by omega) (by omega) w
  have e : sayB (v.toNat : Int) (o.toNat : Int) = ⟨#[255, v, o]⟩ := by simp [sayB, sayL]
  rw [e] at h
  exact h

theorem cod_set_ne {w : World} {b c : Nat} {cs : Array Value} (h : w.heap[c]? = some (.cells cs 25 (0, 0))) (hne : c ≠ b) (o : Nat) (v : Value) :
    (w.setCell ⟨b, o, none⟩ v).heap[c]? = some (.cells cs 25 (0, 0)) := by
  rw [Below.heap_setCell _ _ _ _ hne]; exact h

theorem isEmpty_mk (l : List UInt8) : (ByteArray.mk l.toArray).toList.isEmpty = l.isEmpty := by simp

/-- The four calls, and that they come to an end. -/
theorem ends_feed (t u : Tel) (ft : Fine t) (fu : Fine u) (v o : UInt8) :
    ∃ (T1 : Tel) (S1 : ByteArray) (U1 : Tel) (S2 : ByteArray) (T2 : Tel) (S3 : ByteArray) (U2 : Tel) (S4 : ByteArray),
      (∀ w, Calls Try.prog 9 #[(calm t).val, .string ⟨#[255, v, o]⟩] w fun e w' => (∃ X, e = .returned (.tuple #[T1.val, .string X, .string S1, .int .i64 0])) ∧ Below w.heap.size w w') ∧
      (∀ w, Calls Try.prog 9 #[(calm u).val, .string S1] w fun e w' => (∃ X, e = .returned (.tuple #[U1.val, .string X, .string S2, .int .i64 0])) ∧ Below w.heap.size w w') ∧
      (∀ w, Calls Try.prog 9 #[T1.val, .string S2] w fun e w' => (∃ X, e = .returned (.tuple #[T2.val, .string X, .string S3, .int .i64 0])) ∧ Below w.heap.size w w') ∧
      (∀ w, Calls Try.prog 9 #[U1.val, .string S3] w fun e w' => (∃ X, e = .returned (.tuple #[U2.val, .string X, .string S4, .int .i64 0])) ∧ Below w.heap.size w w') ∧
      (S1.toList.isEmpty = true ∨ S2.toList.isEmpty = true ∨ S3.toList.isEmpty = true ∨ S4.toList.isEmpty = true) := by
  have f1 := fine_feed (fine_calm ft) [255, v, o]
  have n1 := (feed_len (calm t) [255, v, o]).2
  generalize h1 : feedL (calm t) [255, v, o] = r1 at *
  have f2 := fine_feed (fine_calm fu) r1.2.2
  have n2 := (feed_len (calm u) r1.2.2).2
  generalize h2 : feedL (calm u) r1.2.2 = r2 at *
  have n3 := (feed_len r1.1 r2.2.2).2
  generalize h3 : feedL r1.1 r2.2.2 = r3 at *
  generalize h4 : feedL r2.1 r3.2.2 = r4 at *
  have he := ends_all t u ft fu v o
  unfold Ended at he
  rw [h1, h2, h3, h4] at he
  simp at n1
  refine ⟨r1.1, ⟨r1.2.2.toArray⟩, r2.1, ⟨r2.2.2.toArray⟩, r3.1, ⟨r3.2.2.toArray⟩, r4.1, ⟨r4.2.2.toArray⟩, fun w => ?_, fun w => ?_, fun w => ?_, fun w => ?_, ?_⟩
  · have h := feed_good (calm t) ⟨#[255, v, o]⟩ w (fine_calm ft) (show 3 ≤ 2097152 by decide)
    rw [show (ByteArray.mk #[255, v, o]).data.toList = [255, v, o] from rfl, h1] at h
    exact h.mono fun e w' ⟨he, hb⟩ => ⟨⟨_, he⟩, hb⟩
  · have h := feed_good (calm u) ⟨r1.2.2.toArray⟩ w (fine_calm fu) (by rw [size_mk]; omega)
    rw [show (ByteArray.mk r1.2.2.toArray).data.toList = r1.2.2 from rfl, h2] at h
    exact h.mono fun e w' ⟨he, hb⟩ => ⟨⟨_, he⟩, hb⟩
  · have h := feed_good r1.1 ⟨r2.2.2.toArray⟩ w f1 (by rw [size_mk]; omega)
    rw [show (ByteArray.mk r2.2.2.toArray).data.toList = r2.2.2 from rfl, h3] at h
    exact h.mono fun e w' ⟨he, hb⟩ => ⟨⟨_, he⟩, hb⟩
  · have h := feed_good r2.1 ⟨r3.2.2.toArray⟩ w f2 (by rw [size_mk]; omega)
    rw [show (ByteArray.mk r3.2.2.toArray).data.toList = r3.2.2 from rfl, h4] at h
    exact h.mono fun e w' ⟨he, hb⟩ => ⟨⟨_, he⟩, hb⟩
  · rw [isEmpty_mk, isEmpty_mk, isEmpty_mk, isEmpty_mk]
    simpa using he

theorem calm_world {w w2 w3 : World} {t u : Tel} {o : Obj} (m2 : Cod w2 w.heap.size t) (k2 : Cod w2 (w.heap.size + 1) u) (l2 : Below w.heap.size w w2)
    (hb3 : Below (((((((w2.setCell ⟨w.heap.size, 0, none⟩ (.int .i64 0)).setCell ⟨w.heap.size, 1, none⟩ (.int .i64 0)).setCell ⟨w.heap.size, 2, none⟩ (.string ⟨#[]⟩)).setCell ⟨w.heap.size + 1, 0, none⟩ (.int .i64 0)).setCell ⟨w.heap.size + 1, 1, none⟩ (.int .i64 0)).setCell ⟨w.heap.size + 1, 2, none⟩ (.string ⟨#[]⟩)).alloc o).heap.size (((((((w2.setCell ⟨w.heap.size, 0, none⟩ (.int .i64 0)).setCell ⟨w.heap.size, 1, none⟩ (.int .i64 0)).setCell ⟨w.heap.size, 2, none⟩ (.string ⟨#[]⟩)).setCell ⟨w.heap.size + 1, 0, none⟩ (.int .i64 0)).setCell ⟨w.heap.size + 1, 1, none⟩ (.int .i64 0)).setCell ⟨w.heap.size + 1, 2, none⟩ (.string ⟨#[]⟩)).alloc o) w3) :
    Cod w3 w.heap.size (calm t) ∧ Cod w3 (w.heap.size + 1) (calm u) ∧ Below w.heap.size w w3 := by
  have z := k2.lt
  have hz : w.heap.size + 1 < (((((((w2.setCell ⟨w.heap.size, 0, none⟩ (.int .i64 0)).setCell ⟨w.heap.size, 1, none⟩ (.int .i64 0)).setCell ⟨w.heap.size, 2, none⟩ (.string ⟨#[]⟩)).setCell ⟨w.heap.size + 1, 0, none⟩ (.int .i64 0)).setCell ⟨w.heap.size + 1, 1, none⟩ (.int .i64 0)).setCell ⟨w.heap.size + 1, 2, none⟩ (.string ⟨#[]⟩)).alloc o).heap.size := by simp; omega
  refine ⟨cod_mk (cod_below (cod_alloc (cod_set_ne (cod_set_ne (cod_set_ne (cod_set (cod_set (cod_set m2 _ _) _ _) _ _) (by omega) _ _) (by omega) _ _) (by omega) _ _) _) hb3 (by omega)) rfl,
    cod_mk (cod_below (cod_alloc (cod_set (cod_set (cod_set (cod_set_ne (cod_set_ne (cod_set_ne k2 (by omega) _ _) (by omega) _ _) (by omega) _ _) _ _) _ _) _ _) _) hb3 hz) rfl, ?_⟩
  refine (Below.alloc (((((((l2.setCell ?_ _).setCell ?_ _).setCell ?_ _).setCell ?_ _).setCell ?_ _).setCell ?_ _)) ?_ o).trans (hb3.mono (by omega))
  all_goals simp
  omega

theorem ten_world {w w3 w4 : World} {b c n : Nat} {t t' u : Tel} (q : Cod w3 b t') (r : Cod w3 c u) (l : Below n w w3) (hn : n ≤ b) (hne : c ≠ b)
    (hb : Below ((((((((((w3.setCell ⟨b, 0, none⟩ (.int .i64 t.pos)).setCell ⟨b, 1, none⟩ (.int .i64 t.verb)).setCell ⟨b, 2, none⟩ (.string t.sub)).setCell ⟨b, 3, none⟩ (.int .i64 t.u0)).setCell ⟨b, 4, none⟩ (.int .i64 t.u1)).setCell ⟨b, 5, none⟩ (.int .i64 t.u2)).setCell ⟨b, 6, none⟩ (.int .i64 t.t0)).setCell ⟨b, 7, none⟩ (.int .i64 t.t1)).setCell ⟨b, 8, none⟩ (.int .i64 t.t2)).setCell ⟨b, 9, none⟩ (.int .i64 t.height)).heap.size ((((((((((w3.setCell ⟨b, 0, none⟩ (.int .i64 t.pos)).setCell ⟨b, 1, none⟩ (.int .i64 t.verb)).setCell ⟨b, 2, none⟩ (.string t.sub)).setCell ⟨b, 3, none⟩ (.int .i64 t.u0)).setCell ⟨b, 4, none⟩ (.int .i64 t.u1)).setCell ⟨b, 5, none⟩ (.int .i64 t.u2)).setCell ⟨b, 6, none⟩ (.int .i64 t.t0)).setCell ⟨b, 7, none⟩ (.int .i64 t.t1)).setCell ⟨b, 8, none⟩ (.int .i64 t.t2)).setCell ⟨b, 9, none⟩ (.int .i64 t.height)) w4) :
    Cod w4 b t ∧ Cod w4 c u ∧ Below n w w4 := by
  have hg := grown_ten (t := t) (grown_refl w3 (some b))
  have hs := hg.size
  have h1 := q.lt
  have h2 := r.lt
  refine ⟨cod_mk (cod_below (cod_ten q) hb (by omega)) rfl, cod_mk (cod_below (cs := u.cells) ?_ hb (by omega)) rfl, (below_ten l hn).trans (hb.mono (by omega))⟩
  rw [hg.block c h2 (by simp; exact hne)]
  exact r

end Go.Proofs.Ytchkohogfcgknaa
