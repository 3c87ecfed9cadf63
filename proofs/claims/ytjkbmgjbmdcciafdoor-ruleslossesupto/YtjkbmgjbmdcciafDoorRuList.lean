/-
  A list of things, as it is told: its contract.
-/
import Derived.Test.YtjkbmgjbmdcciafDoorRuLook
namespace Go.Proofs.YtjkbmgjbmdcciafDoor
open Go.RowKit
set_option linter.unusedVariables false

theorem names_size {L : Ld} (hf : Fine L) : ∀ (q : List Int), (∀ x ∈ q, ∃ i : Nat, x = (i : Int) ∧ i < 9) → (namesK L q).size ≤ q.length * 1048578 := by
  intro q
  induction q with
  | nil => intro _; exact Nat.le_refl 0
  | cons a q ih =>
    intro h
    have := ih (fun x hx => h x (List.mem_cons_of_mem _ hx))
    obtain ⟨i, e, hi⟩ := h a (List.mem_cons_self ..)
    have h1 := hf.tname a.toNat (by omega)
    have h2 := star_size (L.on a.toNat)
    have h3 : (⟨#[32]⟩ : ByteArray).size = 1 := rfl
    simp only [namesK, ByteArray.size_append, h3, List.length_cons]
    omega
theorem names_some (L : Ld) {q : List Int} (h : q ≠ []) : (namesK L q).toList.isEmpty = false := by
  cases q with
  | nil => exact absurd rfl h
  | cons a q =>
    rw [Lib.toList_data]
    simp only [namesK]
    simp
theorem take_snoc {q : List Int} {k : Nat} (hk : k < q.length) : q.take (k + 1) = q.take k ++ [q.getD k 0] := by
  rw [List.take_succ_eq_append_getElem hk]; simp [hk]

set_option maxRecDepth 100000 in
set_option maxHeartbeats 1000000 in
theorem listed_any {w0 : World} {L : Ld} {Es : List Ev} {w : World} (hS : Sn 54 [] w0 L Es w) (hf : Fine L) {v : Value} {q : List Int} (hN : NumK w0.heap.size 165 w v q) (hq : ∀ x ∈ q, ∃ i : Nat, x = (i : Int) ∧ i < 9) (hlen : q.length ≤ 18) :
    Calls Tryd.prog 36 #[.pointer (some ⟨w0.heap.size, 0, none⟩), v] w fun e w' => e = .returned (.string (listedT L q)) ∧ Below w.heap.size w w' := by
  have HS := hide hS
  have HN := hide hN
  have HQ := hide hq
  have HF := hide hf
  obtain ⟨av, cap, rfl⟩ := hN.shape
  clear hS hN hq hf
  generalize hn : q.length = n at *
  have HNn := hide hn
  clear hn
  go_enter Tryd.func36, Tryd.ntmps36
  go_wp2
  go_loopw [5, 10] (fun t c wr => ∃ k : Nat, k ≤ n ∧ c = .int .i64 k ∧ t = .string (namesK L (q.take k)) ∧ ∃ m, wr = w.drewN m) (fun _ c _ => n - (intOf c).toNat)
  case atStart => exact ⟨0, by omega, rfl, rfl, 0, rfl⟩
  case round =>
    obtain ⟨k, hle, rfl, rfl, m, rfl⟩ := hrel
    by_cases hk : k < n
    · have hkq : k < q.length := by rw [HNn.out]; exact hk
      obtain ⟨b, off, cap', e, hcell⟩ := HN.out.cell hkq
      rw [HNn.out] at e
      injection e with e1 e2 e3
      subst e1 e3
      obtain ⟨i, ei, hi⟩ := HQ.out _ (getD_mem hkq)
      have HT := hide (show namesK L (q.take (k + 1)) = namesK L (q.take k) ++ (⟨#[32]⟩ ++ L.tname i ++ starT (L.on i)) by rw [take_snoc hkq, names_snoc, ei]; rfl)
      rw [ei] at hcell
      have c0 := HS.out.thing i 0 hi (by omega)
      have c4 := HS.out.thing i 4 hi (by omega)
      simp only [Nat.add_zero, Ld.thingCell] at c0 c4
      have hci : (i : Int) < 9 := by omega
      have hs0 : (namesK L (q.take k)).size ≤ 20000000 := by
        have := names_size HF.out (q.take k) (fun x hx => HQ.out x (List.mem_of_mem_take hx))
        have h2 : (q.take k).length ≤ 18 := by simp; omega
        have : (q.take k).length * 1048578 ≤ 18 * 1048578 := Nat.mul_le_mul_right _ h2
        omega
      have hs1 := HF.out.tname i hi
      have hs2 := star_size (L.on i)
      have hs4 : (⟨#[32]⟩ : ByteArray).size = 1 := rfl
      clear ei
      generalize namesK L (q.take k) = A at *
      go_wp2_with fail
      go_region_with (go_at_call 62; refine (star_any _ _).mono ?_; rintro e x2 ⟨rfl, hx2⟩; rw [hx2]; clear hx2 x2)
      all_goals go_wp2
      all_goals go_roundw
      all_goals first | exact ⟨k + 1, by omega, by go_num, by rw [HT.out], m + 1, rfl⟩ | (simp [intOf]; omega)
    · have hkn : k = n := by omega
      subst hkn
      have hall : q.take k = q := by rw [← HNn.out]; exact List.take_length
      rw [hall]
      have hs0 : (namesK L q).size ≤ 20000000 := by
        have := names_size HF.out q HQ.out
        have : q.length * 1048578 ≤ 18 * 1048578 := Nat.mul_le_mul_right _ (by rw [HNn.out]; exact hlen)
        omega
      by_cases h0 : q = []
      · have HV := hide (show listedT L q = ⟨#[32, 110, 111, 116, 104, 105, 110, 103]⟩ ++ ⟨#[46]⟩ by unfold listedT; rw [if_pos h0]; rfl)
        have he : (namesK L q).toList.isEmpty = true := by subst h0; rw [Lib.toList_data]; rfl
        clear h0 hall
        generalize namesK L q = A at *
        go_wp2
        go_ret
        exact ⟨ret_str HV.out.symm, below_drewN (Below.refl _ _) _⟩
      · have HV := hide (show listedT L q = namesK L q ++ ⟨#[46]⟩ by unfold listedT; rw [if_neg h0]; rfl)
        have he := names_some L h0
        clear h0 hall
        generalize namesK L q = A at *
        go_wp2
        go_ret
        exact ⟨ret_str HV.out.symm, below_drewN (Below.refl _ _) _⟩
end Go.Proofs.YtjkbmgjbmdcciafDoor
