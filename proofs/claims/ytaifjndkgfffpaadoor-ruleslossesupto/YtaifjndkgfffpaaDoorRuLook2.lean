/-
  Ways and lists as they are told; what is told to whoever looks: contracts.
-/
import Derived.Test.YtaifjndkgfffpaaDoorMgAU
import Derived.Test.YtaifjndkgfffpaaDoorLdGr
namespace Go.Proofs.YtaifjndkgfffpaaDoor
open Go.RowKit
set_option linter.unusedVariables false

theorem ways_size (L : Ld) (r k : Nat) (hk : k ≤ 6) : (waysK L r k).size ≤ k * 10 := by
  induction k with
  | zero => exact Nat.le_refl 0
  | succ k ih =>
    have := ih (by omega)
    simp only [waysK]
    split
    · omega
    · have h1 := star_size (L.shut r k)
      have h2 : (bs (calledI (k : Int))).size ≤ 5 := by
        rw [bs_size, calledI_nat]
        match k, hk with
        | 0, _ | 1, _ | 2, _ | 3, _ | 4, _ | 5, _ => decide
      have h3 : (⟨#[32]⟩ : ByteArray).size = 1 := rfl
      simp only [ByteArray.size_append, h3]
      omega

set_option maxRecDepth 100000 in
set_option maxHeartbeats 1000000 in
theorem ways_any (L : Ld) (r : Nat) (w : World) (hv : Vb w) :
    Calls Tryd.prog 77 #[.agg (L.rcells r)] w fun e w' => e = .returned (.string (waysK L r 6)) ∧ Below w.heap.size w w' := by
  have HV := hide hv
  clear hv
  unfold Ld.rcells
  go_enter Tryd.func77, Tryd.ntmps77
  go_wp2
  go_loopw [3, 8] (fun t c wr => ∃ k : Nat, k ≤ 6 ∧ c = .int .i64 k ∧ t = .string (waysK L r k) ∧ wr.heap[w.heap.size]? = some (.cells (L.rcells r) 25 (0, 0)) ∧ Below w.heap.size w wr) (fun _ c _ => 6 - (intOf c).toNat)
  case atStart => exact ⟨0, by omega, rfl, rfl, heap_alloc_new w _, below_box w _⟩
  case round =>
    obtain ⟨k, hle, rfl, rfl, hg, hlow⟩ := hrel
    have HG := hide hg
    have HL := hide hlow
    clear hg hlow
    by_cases hk : k < 6
    · have hix := index37 (L.exit r) k hk
      unfold ints at hix
      by_cases h0 : L.exit r k = 0
      · have hb0 : (L.exit r k != 0) = false := by simp [h0]
        have HN := hide (show waysK L r (k + 1) = waysK L r k by simp only [waysK]; rw [if_pos h0])
        clear h0
        go_wp2
        go_roundw
        case rel => exact ⟨k + 1, by omega, by go_num, by rw [HN.out], HG.out, HL.out⟩
        case measure => simp [intOf]; omega
      · have hb0 : (L.exit r k != 0) = true := by simp [h0]
        have HN := hide (show waysK L r (k + 1) = waysK L r k ++ (⟨#[32]⟩ ++ bs (calledI (k : Int)) ++ starT (L.shut r k)) by simp only [waysK]; rw [if_neg h0])
        have hcell : wr.cell? ⟨w.heap.size, 8 + k, none⟩ = some (.bool (L.shut r k)) := by
          rw [cell_of_row wr _ _ _ _ _ HG.out, L.rcells_get r _ (by omega)]
          match k, hk with
          | 0, _ | 1, _ | 2, _ | 3, _ | 4, _ | 5, _ => rfl
        have hki : (k : Int) < 6 := by omega
        have hs1 : (waysK L r k).size ≤ 60 := by have := ways_size L r k (by omega); omega
        have hs2 : (bs (calledI (k : Int))).size ≤ 5 := by
          rw [bs_size, calledI_nat]
          match k, hk with
          | 0, _ | 1, _ | 2, _ | 3, _ | 4, _ | 5, _ => decide
        have hs3 := star_size (L.shut r k)
        have hs4 : (⟨#[32]⟩ : ByteArray).size = 1 := rfl
        have VV := hide (HV.out.below HL.out (Nat.le_refl _))
        clear h0
        generalize waysK L r k = A at *
        go_wp2_with fail
        have HL2 := hide HL.out.drew
        have HG2 : Hid (wr.drew.heap[w.heap.size]? = some (.cells (L.rcells r) 25 (0, 0))) := HG.out
        have VD := hide (VV.out.drewN 1)
        go_region_with (first | (go_at_call 73; refine (called_any (k : Int) _ VD.out).mono ?_; rintro e x1 ⟨rfl, hx1⟩; rw [hx1]; clear hx1 x1) | (go_at_call 92; refine (star_any _ _).mono ?_; rintro e x2 ⟨rfl, hx2⟩; rw [hx2]; clear hx2 x2))
        all_goals go_wp2
        all_goals go_roundw
        all_goals first | exact ⟨k + 1, by omega, by go_num, by rw [HN.out], HG2.out, HL2.out⟩ | (simp [intOf]; omega)
    · have hk6 : k = 6 := by omega
      subst hk6
      go_wp2
      go_ret
      exact ⟨rfl, HL.out⟩
end Go.Proofs.YtaifjndkgfffpaaDoor
