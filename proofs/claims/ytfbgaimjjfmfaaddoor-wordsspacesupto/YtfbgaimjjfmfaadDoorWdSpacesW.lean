/-
  WordsSpaces' walk.
-/
import Derived.Test.YtfbgaimjjfmfaadDoorWdEq
namespace Go.Proofs.YtfbgaimjjfmfaadDoor
open Go.RowKit
set_option linter.unusedVariables false

theorem cells_last {w1 w2 : World} {c : Array Value} (hb : Below (w1.alloc (.cells c 29)).heap.size (w1.alloc (.cells c 29)) w2) (o : Nat) : w2.cell? ⟨w1.heap.size, o, none⟩ = c[o]? := by
  have h : w2.heap[w1.heap.size]? = some (.cells c 29) := by
    rw [hb.block _ (by simp)]; exact heap_alloc_new w1 _
  simp [World.cell?, h]

theorem joined (g s : ByteArray) : (g ++ s ++ g).data.toList = g.data.toList ++ s.data.toList ++ g.data.toList := by
  simp [ByteArray.data_append]

theorem joined_size (g s : ByteArray) : (g ++ s ++ g).size = g.size + s.size + g.size := by
  have := joined g s
  have h := congrArg List.length this
  simp only [List.length_append, size_len] at h
  exact h

set_option maxHeartbeats 4000000 in
set_option maxRecDepth 100000 in
theorem spaces_walk (s g : ByteArray) (w : World) (hs : s.size ≤ 2097152) (hg : g.size ≤ 2097152) (hv : Vb w) :
    Calls Tryd.prog 4 #[.string s, .string g] w fun e w' => e = .returned (.bool true) ∧ Below w.heap.size w w' := by
  have hv0 := hide hv
  clear hv
  go_enter Tryd.func4, Tryd.ntmps4
  go_wp2
  go_loopw [12] (fun i wr => ∃ k : Nat, k ≤ g.size ∧ i = .int .i64 k ∧ wr = w ∧ Hid (∀ j (hj : j < g.size), j < k → g[j] = 32)) (fun i _ => g.size - (intOf i).toNat)
  case atStart => exact ⟨0, Nat.zero_le _, rfl, rfl, fun j hj h => by omega⟩
  case round =>
    obtain ⟨k, hk, rfl, rfl, hH⟩ := hrel
    by_cases hlt : k < g.size
    · by_cases h32 : g[k].toNat = 32
      · have HK := hide (show g[k] = 32 from UInt8.toNat.inj h32)
        have hne : ((g[k].toNat : Int) != 32) = false := by simp [h32]
        clear h32
        go_wp2
        refine ⟨⟨k + 1, hlt, by go_num, trivial, fun j hj h => ?_⟩, by simp [intOf]; omega⟩
        by_cases e : j = k
        · subst e; exact HK.out
        · exact hH.out j hj (by omega)
      · have hne : ((g[k].toNat : Int) != 32) = true := by simp; omega
        clear h32
        go_wp2_with fail
        refine (means_any _ hv0.out).mono ?_
        rintro e w1 ⟨rfl, hb1⟩
        go_wp2
        go_ret
        exact ⟨rfl, hb1⟩
    · have HP : Hid (parseL (g ++ s ++ g).data.toList = parseL s.data.toList) := by
        rw [joined]
        refine parse_spaces _ _ fun b hb => ?_
        obtain ⟨j, hj, rfl⟩ := List.getElem_of_mem hb
        have hj' : j < g.size := by rw [← size_len]; exact hj
        have := hH.out j hj' (by omega)
        rw [← this]
        show g.data.toList[j] = g.data[j]
        simp
      have C1 := hide (fun w' h => parse_any s w' (by omega) h)
      have C2 := hide (fun w' h => parse_any (g ++ s ++ g) w' (by rw [joined_size]; omega) h)
      rw [HP.out] at C2
      clear HP hH
      generalize (parseL s.data.toList).1 = o at C1 C2
      generalize (parseL s.data.toList).2 = n at C1 C2
      simp only [Ord.cells] at C1 C2
      have hq := fun w' => eqlOrd w' o.verb o.nth o.all (bs o.name) (bs o.second) (bs o.text)
      go_wp2_with fail
      refine (C1.out _ hv0.out).mono ?_
      rintro e w1 ⟨rfl, hb1⟩
      have hv1 := hide (hv0.out.below hb1 (Nat.le_refl _))
      have HB1 := hide hb1
      have hz1 := hb1.size
      clear hb1
      go_wp2_with fail
      refine (C2.out _ (hv1.out.alloc _)).mono ?_
      rintro e w2 ⟨rfl, hb2⟩
      have c0 : w2.cell? ⟨w1.heap.size, 0, none⟩ = some _ := cells_last hb2 0
      have c1 : w2.cell? ⟨w1.heap.size, 1, none⟩ = some _ := cells_last hb2 1
      have c2 : w2.cell? ⟨w1.heap.size, 2, none⟩ = some _ := cells_last hb2 2
      have c3 : w2.cell? ⟨w1.heap.size, 3, none⟩ = some _ := cells_last hb2 3
      have c4 : w2.cell? ⟨w1.heap.size, 4, none⟩ = some _ := cells_last hb2 4
      have c5 : w2.cell? ⟨w1.heap.size, 5, none⟩ = some _ := cells_last hb2 5
      have hv2 := hide ((hv1.out.alloc _).below hb2 (Nat.le_refl _))
      have HB2 := hide ((HB1.out.alloc hz1 _).trans (hb2.mono (by simp; omega)))
      have hz2 := hb2.size
      simp only [World.size_alloc] at hz2
      have hlt2 : w1.heap.size < w2.heap.size := by omega
      have hne2 : ¬ w1.heap.size = w2.heap.size := by omega
      clear hb2 C1 C2
      go_wp2_with fail
      refine (means_any _ (hv2.out.alloc _)).mono ?_
      rintro e w3 ⟨rfl, hb3⟩
      go_wp2
      go_ret
      exact ⟨rfl, (HB2.out.alloc HB2.out.size _).trans (hb3.mono (by have := HB2.out.size; simp; omega))⟩
end Go.Proofs.YtfbgaimjjfmfaadDoor
