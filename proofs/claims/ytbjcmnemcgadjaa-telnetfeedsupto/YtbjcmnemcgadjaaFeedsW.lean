/-
  The walk of the law TelnetFeeds.
-/
import Derived.Test.YtbjcmnemcgadjaaRefLoop
import Derived.Test.YtbjcmnemcgadjaaRefEsc
import Derived.Test.YtbjcmnemcgadjaaPartsW
import Derived.Deep.RegionHeld3
namespace Go.Proofs.Ytbjcmnemcgadjaa
open Go.RowKit
set_option linter.unusedVariables false

theorem eql_self (t : Tel) (w : World) : (binOp .eql 25 t.val t.val).run Try.prog w = .ok (.bool true) w := by
  show (binOp .eql 25 (.agg t.cells) (.agg t.cells)).run Try.prog w = _
  rw [run_eql_struct]
  show ((Op.equalIn 10000 25 t.val t.val).run Try.prog w).andThen _ = _
  rw [eq25]; rfl

theorem cod_behind {w w' : World} {b : Nat} {t : Tel} {B : Nat} (h : Cod w b t) (hb : Below B w w') (hB : w.heap.size ≤ B) : Cod w' b t := by
  have := h.lt
  unfold Cod; rw [hb.block _ (by omega)]; exact h

/-- Three blocks: the codec, what the program makes of it, what the document does. -/
structure Sg (w : World) (b0 b1 b2 : Nat) (t M : Tel) (w' : World) : Prop where
  k0 : Cod w' b0 t
  k1 : Cod w' b1 M
  k2 : Cod w' b2 M
  lo : Below w.heap.size w w'

section
variable {w w1 w2 : World} {b0 b1 b2 : Nat} {t M : Tel}
theorem Sg.behind {B : Nat} (h : Sg w b0 b1 b2 t M w1) (hb : Below B w1 w2) (hB : w1.heap.size ≤ B) : Sg w b0 b1 b2 t M w2 :=
  ⟨cod_behind h.k0 hb hB, cod_behind h.k1 hb hB, cod_behind h.k2 hb hB, h.lo.trans (hb.mono (by have := h.lo.size; omega))⟩
theorem Sg.drew (h : Sg w b0 b1 b2 t M w1) : Sg w b0 b1 b2 t M w1.drew := h.behind (Below.refl w1.heap.size w1).drew (Nat.le_refl _)
theorem Sg.s (h : Sg w b0 b1 b2 t M w1) : (w1.cell? ⟨b0, 0, none⟩ = some (.int .i64 t.pos) ∧ w1.cell? ⟨b0, 1, none⟩ = some (.int .i64 t.verb) ∧ w1.cell? ⟨b0, 2, none⟩ = some (.string t.sub) ∧ w1.cell? ⟨b0, 3, none⟩ = some (.int .i64 t.u0) ∧ w1.cell? ⟨b0, 4, none⟩ = some (.int .i64 t.u1) ∧ w1.cell? ⟨b0, 5, none⟩ = some (.int .i64 t.u2) ∧ w1.cell? ⟨b0, 6, none⟩ = some (.int .i64 t.t0) ∧ w1.cell? ⟨b0, 7, none⟩ = some (.int .i64 t.t1) ∧ w1.cell? ⟨b0, 8, none⟩ = some (.int .i64 t.t2) ∧ w1.cell? ⟨b0, 9, none⟩ = some (.int .i64 t.height) ∧ w1.cell? ⟨b1, 0, none⟩ = some (.int .i64 M.pos) ∧ w1.cell? ⟨b1, 1, none⟩ = some (.int .i64 M.verb) ∧ w1.cell? ⟨b1, 2, none⟩ = some (.string M.sub) ∧ w1.cell? ⟨b1, 3, none⟩ = some (.int .i64 M.u0) ∧ w1.cell? ⟨b1, 4, none⟩ = some (.int .i64 M.u1) ∧ w1.cell? ⟨b1, 5, none⟩ = some (.int .i64 M.u2) ∧ w1.cell? ⟨b1, 6, none⟩ = some (.int .i64 M.t0) ∧ w1.cell? ⟨b1, 7, none⟩ = some (.int .i64 M.t1) ∧ w1.cell? ⟨b1, 8, none⟩ = some (.int .i64 M.t2) ∧ w1.cell? ⟨b1, 9, none⟩ = some (.int .i64 M.height) ∧ w1.cell? ⟨b2, 0, none⟩ = some (.int .i64 M.pos) ∧ w1.cell? ⟨b2, 1, none⟩ = some (.int .i64 M.verb) ∧ w1.cell? ⟨b2, 2, none⟩ = some (.string M.sub) ∧ w1.cell? ⟨b2, 3, none⟩ = some (.int .i64 M.u0) ∧ w1.cell? ⟨b2, 4, none⟩ = some (.int .i64 M.u1) ∧ w1.cell? ⟨b2, 5, none⟩ = some (.int .i64 M.u2) ∧ w1.cell? ⟨b2, 6, none⟩ = some (.int .i64 M.t0) ∧ w1.cell? ⟨b2, 7, none⟩ = some (.int .i64 M.t1) ∧ w1.cell? ⟨b2, 8, none⟩ = some (.int .i64 M.t2) ∧ w1.cell? ⟨b2, 9, none⟩ = some (.int .i64 M.height)) ∧ Sg w b0 b1 b2 t M w1 := by
  obtain ⟨a0, a1, a2, a3, a4, a5, a6, a7, a8, a9, _⟩ := h.k0.all
  obtain ⟨c0, c1, c2, c3, c4, c5, c6, c7, c8, c9, _⟩ := h.k1.all
  obtain ⟨d0, d1, d2, d3, d4, d5, d6, d7, d8, d9, _⟩ := h.k2.all
  exact ⟨⟨a0, a1, a2, a3, a4, a5, a6, a7, a8, a9, c0, c1, c2, c3, c4, c5, c6, c7, c8, c9, d0, d1, d2, d3, d4, d5, d6, d7, d8, d9⟩, h⟩
end

set_option maxRecDepth 100000 in
set_option maxHeartbeats 4000000 in
theorem tfeeds_walk (t M : Tel) (s X Y : ByteArray) (E : Int) (w : World) (hsub : t.sub.size ≤ maxLen) (hs : s.size ≤ 1048576)
    (C1 : ∀ w, Calls Try.prog 9 #[t.val, .string s] w fun e w' => e = .returned (.tuple #[M.val, .string X, .string Y, .int .i64 E]) ∧ Below w.heap.size w w')
    (C2 : ∀ w, Calls Try.prog 10 #[t.val, .string s] w fun e w' => e = .returned (.tuple #[M.val, .string X, .string Y, .int .i64 E]) ∧ Below w.heap.size w w') :
    Calls Try.prog 4 #[t.val, .string s] w fun e w' => e = .returned (.bool true) ∧ Below w.heap.size w w' := by
  have q1 := eql_self M
  have q3 := eq25 M
  have hgt : Try.prog.eqGuardType Try.prog.depth 25 = false := by kernel_rfl
  replace C1 := hide C1
  replace C2 := hide C2
  have D1 := hide (fun w' => good_any t w' hsub)
  have D2 := hide (fun w' => refgood_any t w' hsub)
  have D3 := hide (fun w' => escape_any s w' hs)
  have D4 := hide (fun w' => refesc_any s w' hs)
  generalize good t = G at D1 D2
  generalize (⟨(escL s.data.toList).toArray⟩ : ByteArray) = Z at D3 D4
  clear hsub hs
  unfold Tel.val Tel.cells at C1 C2 D1 D2 q1 q3 ⊢
  go_enter Try.func4, Try.ntmps4
  go_wp2_with fail
  refine (C1.out _).mono ?_
  rintro e w1 ⟨rfl, hb1⟩
  have k1 : Cod w1 w.heap.size t := cod_new hb1 (by simp)
  have l1 : Below w.heap.size w w1 := below_old (Below.refl _ _) hb1 (by simp)
  have z1 := k1.lt
  clear hb1 C1
  obtain ⟨c0, c1, c2, c3, c4, c5, c6, c7, c8, c9, cfz⟩ := k1.all
  go_wp2_with fail
  refine (C2.out _).mono ?_
  rintro e w2 ⟨rfl, hb2⟩
  have S0 : Sg w w.heap.size w1.heap.size w2.heap.size t M (w2.alloc (.cells M.cells 25)) := by
    have hB := (Below.refl w2.heap.size w2).alloc (Nat.le_refl _) (.cells M.cells 25)
    have k2 : Cod w2 w.heap.size t := cod_old k1 hb2 (by simp)
    have l2 : Below w.heap.size w w2 := below_old l1 hb2 (by simp)
    have a2 : Cod w2 w1.heap.size M := cod_new hb2 (by simp)
    exact ⟨cod_behind k2 hB (Nat.le_refl _), cod_behind a2 hB (Nat.le_refl _), heap_alloc_new w2 _, l2.alloc l2.size _⟩
  clear hb2 k1 l1 c0 c1 c2 c3 c4 c5 c6 c7 c8 c9 cfz C2
  have S0d := S0.drew
  clear S0
  go_wp2_with fail
  go_region_held3 (fun w' => (w'.cell? ⟨w.heap.size, 0, none⟩ = some (.int .i64 t.pos) ∧ w'.cell? ⟨w.heap.size, 1, none⟩ = some (.int .i64 t.verb) ∧ w'.cell? ⟨w.heap.size, 2, none⟩ = some (.string t.sub) ∧ w'.cell? ⟨w.heap.size, 3, none⟩ = some (.int .i64 t.u0) ∧ w'.cell? ⟨w.heap.size, 4, none⟩ = some (.int .i64 t.u1) ∧ w'.cell? ⟨w.heap.size, 5, none⟩ = some (.int .i64 t.u2) ∧ w'.cell? ⟨w.heap.size, 6, none⟩ = some (.int .i64 t.t0) ∧ w'.cell? ⟨w.heap.size, 7, none⟩ = some (.int .i64 t.t1) ∧ w'.cell? ⟨w.heap.size, 8, none⟩ = some (.int .i64 t.t2) ∧ w'.cell? ⟨w.heap.size, 9, none⟩ = some (.int .i64 t.height) ∧ w'.cell? ⟨w1.heap.size, 0, none⟩ = some (.int .i64 M.pos) ∧ w'.cell? ⟨w1.heap.size, 1, none⟩ = some (.int .i64 M.verb) ∧ w'.cell? ⟨w1.heap.size, 2, none⟩ = some (.string M.sub) ∧ w'.cell? ⟨w1.heap.size, 3, none⟩ = some (.int .i64 M.u0) ∧ w'.cell? ⟨w1.heap.size, 4, none⟩ = some (.int .i64 M.u1) ∧ w'.cell? ⟨w1.heap.size, 5, none⟩ = some (.int .i64 M.u2) ∧ w'.cell? ⟨w1.heap.size, 6, none⟩ = some (.int .i64 M.t0) ∧ w'.cell? ⟨w1.heap.size, 7, none⟩ = some (.int .i64 M.t1) ∧ w'.cell? ⟨w1.heap.size, 8, none⟩ = some (.int .i64 M.t2) ∧ w'.cell? ⟨w1.heap.size, 9, none⟩ = some (.int .i64 M.height) ∧ w'.cell? ⟨w2.heap.size, 0, none⟩ = some (.int .i64 M.pos) ∧ w'.cell? ⟨w2.heap.size, 1, none⟩ = some (.int .i64 M.verb) ∧ w'.cell? ⟨w2.heap.size, 2, none⟩ = some (.string M.sub) ∧ w'.cell? ⟨w2.heap.size, 3, none⟩ = some (.int .i64 M.u0) ∧ w'.cell? ⟨w2.heap.size, 4, none⟩ = some (.int .i64 M.u1) ∧ w'.cell? ⟨w2.heap.size, 5, none⟩ = some (.int .i64 M.u2) ∧ w'.cell? ⟨w2.heap.size, 6, none⟩ = some (.int .i64 M.t0) ∧ w'.cell? ⟨w2.heap.size, 7, none⟩ = some (.int .i64 M.t1) ∧ w'.cell? ⟨w2.heap.size, 8, none⟩ = some (.int .i64 M.t2) ∧ w'.cell? ⟨w2.heap.size, 9, none⟩ = some (.int .i64 M.height)) ∧ Sg w w.heap.size w1.heap.size w2.heap.size t M w') ((exact Sg.s (by assumption)))
    (first | (go_at_call 11; refine (D1.out _).mono ?_; rintro e x11 ⟨rfl, hbx11⟩; have hA : Sg w w.heap.size w1.heap.size w2.heap.size t M x11 := (by first | exact S0d.behind hbx11 (Nat.le_refl _) | exact hB.behind hbx11 (Nat.le_refl _))) | (go_at_call 12; refine (D2.out _).mono ?_; rintro e x12 ⟨rfl, hbx12⟩; have hB : Sg w w.heap.size w1.heap.size w2.heap.size t M x12 := (by first | exact S0d.behind hbx12 (Nat.le_refl _) | exact hA.behind hbx12 (Nat.le_refl _))) | (go_at_call 13; refine (D3.out _).mono ?_; rintro e x13 ⟨rfl, hbx13⟩; have hC : Sg w w.heap.size w1.heap.size w2.heap.size t M x13 := (by first | exact hA.behind hbx13 (Nat.le_refl _) | exact hB.behind hbx13 (Nat.le_refl _) | exact hD.behind hbx13 (Nat.le_refl _))) | (go_at_call 14; refine (D4.out _).mono ?_; rintro e x14 ⟨rfl, hbx14⟩; have hD : Sg w w.heap.size w1.heap.size w2.heap.size t M x14 := (by first | exact hA.behind hbx14 (Nat.le_refl _) | exact hB.behind hbx14 (Nat.le_refl _) | exact hC.behind hbx14 (Nat.le_refl _))) | (go_at_call 15; refine (feeds15 _).mono ?_; rintro e x15 ⟨rfl, hbx15⟩; have hE : Sg w w.heap.size w1.heap.size w2.heap.size t M x15 := (by first | exact hC.behind hbx15 (Nat.le_refl _) | exact hD.behind hbx15 (Nat.le_refl _))))
  all_goals go_wp2
  all_goals go_ret
  all_goals exact ⟨by simp, hE.lo⟩
end Go.Proofs.Ytbjcmnemcgadjaa
