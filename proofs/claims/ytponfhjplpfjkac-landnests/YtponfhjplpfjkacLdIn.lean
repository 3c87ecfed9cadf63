/-
  Inside, and whether a way comes to no end: contracts.
-/
import Derived.Test.YtponfhjplpfjkacLdArm
namespace Go.Proofs.Ytponfhjplpfjkac
open Go.RowKit
set_option linter.unusedVariables false

set_option maxRecDepth 100000 in
set_option maxHeartbeats 400000 in
theorem inside_any (L : Ld) (i box : Int) (w : World) :
    Calls Try.prog 16 #[.agg L.cells, .int .i64 i, .int .i64 box] w fun e w' => e = .returned (.bool (decide (box ∈ wayL L i))) ∧ Below w.heap.size w w' := by
  go_enter Try.func16, Try.ntmps16
  go_wp2_with (refine wl_land (.tmp 3) rfl rfl _ L rfl (cod_new w L) ?_)
  refine (way_any L i _).mono ?_
  rintro e w1 ⟨v, rfl, hn, hb⟩
  have hb' : Below w.heap.size w w1 := ((Below.refl _ _).alloc (Nat.le_refl _) _).trans (hb.mono (by simp))
  clear hb
  go_wp2_with fail
  refine (contains_any v _ box _ hn).mono ?_
  rintro e w2 ⟨rfl, hw⟩
  rw [hw]
  clear hw w2
  go_wp2
  go_ret
  exact ⟨rfl, hb'⟩

/-! ### The last of a way. -/
theorem wayFrom_win (L : Ld) : ∀ (n : Nat) (S : List Int) (i : Int), WIn S → WIn (wayFrom L n S i) ∧ (S ≠ [] → wayFrom L n S i ≠ []) := by
  intro n
  induction n with
  | zero => intro S i h; exact ⟨h, fun h => h⟩
  | succ n ih =>
    intro S i h
    simp only [wayFrom]
    by_cases hc : amg i 9 = true ∧ i ∉ S
    · rw [if_pos hc]
      have hs := (h.snoc hc.1 hc.2).1
      by_cases h2 : L.wh i.toNat = 2
      · rw [if_pos h2]
        have := ih _ (L.loc i.toNat) hs
        exact ⟨this.1, fun _ => this.2 (by simp)⟩
      · rw [if_neg h2]; exact ⟨hs, fun _ => by simp⟩
    · rw [if_neg hc]; exact ⟨h, fun h => h⟩

theorem way_win (L : Ld) (i : Int) : WIn (wayL L i) := (wayFrom_win L 10 [] i ⟨List.nodup_nil, fun s h => by simp at h⟩).1

theorem way_pos (L : Ld) {i : Int} (h : amg i 9 = true) : wayL L i ≠ [] := by
  unfold wayL
  simp only [wayFrom]
  rw [if_pos ⟨h, by simp⟩]
  have hs := (WIn.snoc (S := []) ⟨List.nodup_nil, fun s h => by simp at h⟩ h (by simp)).1
  by_cases h2 : L.wh i.toNat = 2
  · rw [if_pos h2]; exact (wayFrom_win L 9 _ _ hs).2 (by simp)
  · rw [if_neg h2]; simp

theorem wayL_nil (L : Ld) {i : Int} (h : amg i 9 = false) : wayL L i = [] := by
  unfold wayL
  simp only [wayFrom]
  rw [if_neg (by simp [h])]

theorem way_len (L : Ld) (i : Int) : (wayL L i).length ≤ 9 := pigeon 9 _ (way_win L i).nodup (way_win L i).inn

/-- The last thing of a way. -/
def lastW (L : Ld) (i : Int) : Nat := ((wayL L i).getD ((wayL L i).length - 1) 0).toNat

theorem getD_mem {q : List Int} {k : Nat} (h : k < q.length) : q.getD k 0 ∈ q := by simp [h]

theorem last_lt (L : Ld) {i : Int} (h : wayL L i ≠ []) : lastW L i < 9 ∧ (wayL L i).getD ((wayL L i).length - 1) 0 = (lastW L i : Int) := by
  have hl : 0 < (wayL L i).length := List.length_pos_iff.2 h
  have := (way_win L i).inn _ (getD_mem (q := wayL L i) (k := (wayL L i).length - 1) (by omega))
  unfold lastW
  omega

theorem Nums.some {w : World} {v : Value} {q : List Int} (h : Nums w v q) (h0 : 0 < q.length) : ∃ b off cap, v = .slice (some ⟨b, off, none⟩) q.length cap ∧ q.length ≤ cap ∧ cap ≤ maxLen ∧ ∀ i, i < q.length → w.cell? ⟨b, off + i, none⟩ = some (.int .i64 (q.getD i 0)) := by
  obtain ⟨av, cap, rfl, hl, hm, hc⟩ := h
  obtain ⟨b, off, rfl, hcc⟩ := hc h0
  exact ⟨b, off, cap, rfl, hl, hm, hcc⟩

set_option maxRecDepth 100000 in
set_option maxHeartbeats 400000 in
theorem endless_any (L : Ld) (i : Int) (w : World) (hi : amg i 9 = true) :
    Calls Try.prog 27 #[.agg L.cells, .int .i64 i] w fun e w' => e = .returned (.bool (L.wh (lastW L i) == 2)) ∧ Below w.heap.size w w' := by
  have hne := way_pos L hi
  have hll := last_lt L hne
  have hlen := way_len L i
  have hpos : 0 < (wayL L i).length := List.length_pos_iff.2 hne
  have HL := hide hll
  have HP := hide hpos
  have HN := hide hlen
  clear hi hne hll hlen hpos
  go_enter Try.func27, Try.ntmps27
  go_wp2_with (refine wl_land (.tmp 2) rfl rfl _ L rfl (cod_new w L) ?_)
  refine (way_any L i _).mono ?_
  rintro e w1 ⟨v, rfl, hn, hb⟩
  have hb' : Below w.heap.size w w1 := ((Below.refl _ _).alloc (Nat.le_refl _) _).trans (hb.mono (by simp))
  have hc : Cod w1 w.heap.size L := (cod_new w L).behind hb (Nat.le_refl _)
  obtain ⟨b, off, cap, rfl, _, _, hcell⟩ := hn.some HP.out
  have c0 := hcell ((wayL L i).length - 1) (by have := HP.out; omega)
  rw [HL.out.2] at c0
  have hk := HL.out.1
  have c2 : w1.cell? ⟨w.heap.size, 84 + lastW L i * 5 + 2, none⟩ = some (.int .i64 (L.wh (lastW L i))) := hc.thing _ 2 hk (by omega)
  have h0 := HP.out
  have h9 := HN.out
  generalize (wayL L i).length = n at *
  generalize hkk : lastW L i = k at *
  have HK := hide hkk
  clear hkk
  obtain ⟨m, rfl⟩ : ∃ m, n = m + 1 := ⟨n - 1, by omega⟩
  simp only [Nat.add_sub_cancel] at c0
  clear hcell hn hb HL HP HN hc
  go_wp2
  go_ret
  exact ⟨ret_bool (by rw [HK.out]), hb'⟩
end Go.Proofs.Ytponfhjplpfjkac
