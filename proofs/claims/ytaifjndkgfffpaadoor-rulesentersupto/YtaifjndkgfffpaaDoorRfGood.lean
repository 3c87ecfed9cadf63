/-
  The document's own answer to whether a land is good: the contract; it is the program's.
-/
import Derived.Test.YtaifjndkgfffpaaDoorRfGdR
import Derived.Test.YtaifjndkgfffpaaDoorRfGdB
import Derived.Test.YtaifjndkgfffpaaDoorRfGdA
import Derived.Test.YtaifjndkgfffpaaDoorRfGdK
import Derived.Test.YtaifjndkgfffpaaDoorRfGdL
import Derived.Test.YtaifjndkgfffpaaDoorRfGdU
import Derived.Test.YtaifjndkgfffpaaDoorMgF
namespace Go.Proofs.YtaifjndkgfffpaaDoor
open Go.RowKit
set_option linter.unusedVariables false

theorem goodland_any (L : Ld) (w : World) : Calls Tryd.prog 25 #[.agg L.cells] w fun e w' => e = .returned (.bool (refG L)) ∧ Below w.heap.size w w' := by
  by_cases hR : ∃ r, r < 6 ∧ ∃ d, d < 6 ∧ okR L r d = false
  · exact goodland_R L w hR
  have hpr : ∀ r, r < 6 → ∀ d, d < 6 → okR L r d = true := fun r hr d hd => by
    cases h : okR L r d with
    | true => rfl
    | false => exact absurd ⟨r, hr, d, hd, h⟩ hR
  by_cases hB : ∃ b, b < 6 ∧ okB L b = false
  · exact goodland_B L w hpr hB
  have hpb : ∀ b, b < 6 → okB L b = true := fun b hb => by
    cases h : okB L b with
    | true => rfl
    | false => exact absurd ⟨b, hb, h⟩ hB
  have key : ∀ n, n ≤ 9 → (∀ i, i < n → okK L i = true ∧ okU L i = true) ∨ ∃ i0, i0 < 9 ∧ (∀ i, i < i0 → okK L i = true ∧ okU L i = true) ∧ (okK L i0 = false ∨ (okK L i0 = true ∧ okU L i0 = false)) := by
    intro n
    induction n with
    | zero => exact fun _ => .inl fun i h => by omega
    | succ n ih =>
      intro hn
      rcases ih (by omega) with h | h
      · cases hk : okK L n with
        | false => exact .inr ⟨n, by omega, h, .inl hk⟩
        | true =>
          cases hu : okU L n with
          | false => exact .inr ⟨n, by omega, h, .inr ⟨hk, hu⟩⟩
          | true =>
            refine .inl fun i hi => ?_
            by_cases e : i = n
            · subst e; exact ⟨hk, hu⟩
            · exact h i (by omega)
      · exact .inr h
  rcases key 9 (Nat.le_refl _) with h | ⟨i0, hi0, hlt, hk | ⟨hk, hu⟩⟩
  · exact goodland_A L w hpr hpb h
  · cases hc : (decide (L.kind i0 < 0) || decide (3 < L.kind i0) || ((L.kind i0 == 0) && L.on i0) || ((L.kind i0 == 2) && L.on i0 && (L.wh i0 != 1))) with
    | true => exact goodland_K L w hpr hpb i0 hi0 hlt hk hc
    | false => exact goodland_L L w hpr hpb i0 hi0 hlt hk hc
  · exact goodland_U L w hpr hpb i0 hi0 hlt hk hu
end Go.Proofs.YtaifjndkgfffpaaDoor
