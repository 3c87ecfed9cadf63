/-
  The last of a way: plain facts.
-/
import Derived.Test.YtncgcejlkmoliaaGreatDoorLdArm
namespace Go.Proofs.YtncgcejlkmoliaaGreatDoor
open Go.RowKit
set_option linter.unusedVariables false

/-! ### The last of a way. -/
theorem wayFrom_win (L : Ld) : ∀ (n : Nat) (S : List Int) (i : Int), WIn S → WIn (wayFrom L n S i) ∧ (S ≠ [] → wayFrom L n S i ≠ []) := by
  intro n
  induction n with
  | zero => intro S i h; exact ⟨h, fun h => h⟩
  | succ n ih =>
    intro S i h
    simp only [wayFrom]
    by_cases hc : amg i 9 = true ∧ i ∉ S
    · rw [if_pos hc]
      have hs := (h.snoc hc.1 hc.2).1
      by_cases h2 : L.wh i.toNat = 2
      · rw [if_pos h2]
        have := ih _ (L.loc i.toNat) hs
        exact ⟨this.1, fun _ => this.2 (by simp)⟩
      · rw [if_neg h2]; exact ⟨hs, fun _ => by simp⟩
    · rw [if_neg hc]; exact ⟨h, fun h => h⟩

theorem way_win (L : Ld) (i : Int) : WIn (wayL L i) := (wayFrom_win L 10 [] i ⟨List.nodup_nil, fun s h => by simp at h⟩).1

theorem way_pos (L : Ld) {i : Int} (h : amg i 9 = true) : wayL L i ≠ [] := by
  unfold wayL
  simp only [wayFrom]
  rw [if_pos ⟨h, by simp⟩]
  have hs := (WIn.snoc (S := []) ⟨List.nodup_nil, fun s h => by simp at h⟩ h (by simp)).1
  by_cases h2 : L.wh i.toNat = 2
  · rw [if_pos h2]; exact (wayFrom_win L 9 _ _ hs).2 (by simp)
  · rw [if_neg h2]; simp

theorem wayL_nil (L : Ld) {i : Int} (h : amg i 9 = false) : wayL L i = [] := by
  unfold wayL
  simp only [wayFrom]
  rw [if_neg (by simp [h])]

theorem way_len (L : Ld) (i : Int) : (wayL L i).length ≤ 9 := pigeon 9 _ (way_win L i).nodup (way_win L i).inn

/-- The last thing of a way. -/
def lastW (L : Ld) (i : Int) : Nat := ((wayL L i).getD ((wayL L i).length - 1) 0).toNat

theorem getD_mem {q : List Int} {k : Nat} (h : k < q.length) : q.getD k 0 ∈ q := by simp [h]

theorem last_lt (L : Ld) {i : Int} (h : wayL L i ≠ []) : lastW L i < 9 ∧ (wayL L i).getD ((wayL L i).length - 1) 0 = (lastW L i : Int) := by
  have hl : 0 < (wayL L i).length := List.length_pos_iff.2 h
  have := (way_win L i).inn _ (getD_mem (q := wayL L i) (k := (wayL L i).length - 1) (by omega))
  unfold lastW
  omega

theorem Nums.some {w : World} {v : Value} {q : List Int} (h : Nums w v q) (h0 : 0 < q.length) : ∃ b off cap, v = .slice (some ⟨b, off, none⟩) q.length cap ∧ q.length ≤ cap ∧ cap ≤ maxLen ∧ ∀ i, i < q.length → w.cell? ⟨b, off + i, none⟩ = some (.int .i64 (q.getD i 0)) := by
  obtain ⟨av, cap, rfl, hl, hm, hc⟩ := h
  obtain ⟨b, off, rfl, hcc⟩ := hc h0
  exact ⟨b, off, cap, rfl, hl, hm, hcc⟩

end Go.Proofs.YtncgcejlkmoliaaGreatDoor
