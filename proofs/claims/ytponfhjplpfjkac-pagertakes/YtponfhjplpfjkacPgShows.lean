/-
  The contracts of shows and pick of the statements' package.
-/
import Derived.Test.YtponfhjplpfjkacPgFlow
namespace Go.Proofs.Ytponfhjplpfjkac
open Go.RowKit
set_option linter.unusedVariables false

def pgA : Pg := { wait := [⟨#[97]⟩], shown := 0, asking := false, ring := ⟨#[]⟩, cut := false }
def pgB : Pg := { wait := [], shown := 1, asking := false, ring := ⟨#[97, 13, 10]⟩, cut := false }

theorem small_of (P : Pg) (h1 : P.ring.size ≤ 700) (h2 : 0 ≤ P.shown) (h3 : P.shown ≤ 200) (h4 : P.wait.length ≤ 60) : Small P := ⟨by omega, by omega, by omega, by omega⟩

theorem small_zp : Small zp := small_of zp (by decide) (by decide) (by decide) (by decide)
theorem small_pgA : Small pgA := small_of pgA (by decide) (by decide) (by decide) (by decide)

theorem tell_zp (w : World) : Calls Try.prog 8 #[.agg (zp.cells (.slice none 0 0)), .string ⟨#[97]⟩] w fun e w' => ∃ v', e = .returned (.tuple #[.agg (pgA.cells v'), .int .i64 0]) ∧ Reads w' v' pgA.wait ∧ Below w.heap.size w w' :=
  (tell_any zp ⟨#[97]⟩ (.slice none 0 0) w (reads_nil w) small_zp).mono fun e w' ⟨v', h1, h2, _, h3⟩ => ⟨v', h1, h2, h3⟩

theorem flow_pgA : flowR pgA 0 = pgB := by rfl

theorem flow_A (v : Value) (w : World) (hv : Reads w v pgA.wait) : Calls Try.prog 10 #[.agg (pgA.cells v), .int .i64 0] w fun e w' => ∃ v', e = .returned (.tuple #[.agg (pgB.cells v'), .int .i64 0]) ∧ Reads w' v' pgB.wait ∧ Below w.heap.size w w' := by
  have h := flow_any pgA 0 v w hv small_pgA (fun _ s hs => by simp [pgA] at hs; subst hs; decide)
  rw [flow_pgA] at h
  exact h.mono fun e w' ⟨v', h1, h2, _, h3⟩ => ⟨v', h1, h2, h3⟩

set_option maxRecDepth 100000 in
set_option maxHeartbeats 400000 in
theorem shows_any (w : World) : Calls Try.prog 7 #[] w fun e w' => e = .returned (.bool true) ∧ Below w.heap.size w w' := by
  have C1 := hide tell_zp
  have C2 := hide flow_A
  unfold zp pgA Pg.cells at C1
  unfold pgA pgB Pg.cells at C2
  dsimp only at C1 C2
  go_enter Try.func7, Try.ntmps7
  go_wp2_with fail
  refine (C1.out _).mono ?_
  rintro e w1 ⟨v1, rfl, hr1, hb1⟩
  obtain ⟨av, cap, rfl⟩ := hr1.shape
  replace hr1 := hide hr1
  go_wp2_with fail
  refine (C2.out _ _ (hr1.out.alloc _)).mono ?_
  rintro e w2 ⟨v2, rfl, hr2, hb2⟩
  obtain ⟨av2, cap2, rfl⟩ := hr2.shape
  have k2 : Cod w2 w1.heap.size pgA (.slice av 1 cap) := cod_new hb2 (by simp)
  obtain ⟨c0, c1, c2, c3, c4, hfz⟩ := k2.all
  have hz := k2.lt
  have l2 : Below w.heap.size w w2 := below_old hb1 hb2 (by simp)
  replace l2 := hide l2
  have hz1 := hb1.size
  clear k2 hb2 hr2 hr1 hb1 C1 C2
  go_wp2
  go_ret
  exact ⟨rfl, below_five l2.out hz1⟩

theorem pick_any (k n : Int) (w : World) (hk : -9223372036854775808 ≤ k) (hk' : k ≤ 9223372036854775807) (hn : 0 < n) (hn' : n ≤ 9223372036854775807) :
    Calls Try.prog 6 #[.int .i64 k, .int .i64 n] w fun e w' => (∃ r : Nat, (r : Int) < n ∧ e = .returned (.int .i64 r)) ∧ w' = w := by
  have h0 : (n == 0) = false := by simp; omega
  go_enter Try.func6, Try.ntmps6
  go_wp2
  all_goals go_ret
  all_goals have h1 := Int.tmod_lt_of_pos k hn
  all_goals have h2 := Int.lt_tmod_of_pos k hn
  · refine ⟨⟨(k.tmod n + n).toNat, by omega, ?_⟩, rfl⟩
    rw [show wrap64 (k.tmod n + n) = ((k.tmod n + n).toNat : Int) by unfold wrap64; omega]
    rfl
  · refine ⟨⟨(k.tmod n).toNat, by omega, ?_⟩, rfl⟩
    rw [show ((k.tmod n).toNat : Int) = k.tmod n by omega]
    rfl
end Go.Proofs.Ytponfhjplpfjkac
