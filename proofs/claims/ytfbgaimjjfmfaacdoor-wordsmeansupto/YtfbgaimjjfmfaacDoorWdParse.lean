/-
  The contract of Parse; what means answers.
-/
import Derived.Test.YtfbgaimjjfmfaacDoorWdParC
namespace Go.Proofs.YtfbgaimjjfmfaacDoor
open Go.RowKit
set_option linter.unusedVariables false

theorem parse_any (s : ByteArray) (w : World) (hs : s.size ≤ 8796093022207) (hv : Vb w) :
    Calls Tryd.prog 5 #[.string s] w fun e w' => e = .returned (.tuple #[.agg (parseL s.data.toList).1.cells, .int .i64 (parseL s.data.toList).2]) ∧ Below w.heap.size w w' := by
  match hL : splitL s.data.toList with
  | [] => exact parse_none s w hs hv hL
  | x :: rest =>
    match hx : verbL x with
    | none => exact parse_noverb s w hs hv x rest hL hx
    | some v =>
      by_cases h11 : v = 11
      · subst h11
        cases ho : speechL s.data.toList with
        | none => exact parse_say_none s w hs hv x rest hL hx ho
        | some o => exact parse_say_some s w hs hv x rest hL hx o ho
      cases ha : aloneB v
      · match rest, hL with
        | [], hL => exact parse_lacks s w hs hv x v hL hx h11 ha
        | y :: r, hL =>
          by_cases h12 : v = 12
          · match r, hL with
            | [], hL =>
              match hy : verbL y with
              | none => exact parse_word12 s w hs hv x y v hL hx h12 hy
              | some d =>
                by_cases h6 : d < 6
                · exact parse_way12 s w hs hv x y v hL hx h12 d hy h6
                · exact parse_far12 s w hs hv x y v hL hx h12 d hy (by omega)
            | z :: r, hL => exact parse_more12 s w hs hv x y z r v hL hx h12
          by_cases h13 : v = 13
          · match r, hL with
            | [], hL =>
              match hy : verbL y with
              | none => exact parse_word13 s w hs hv x y v hL hx h13 hy
              | some d =>
                by_cases h6 : d < 6
                · exact parse_way13 s w hs hv x y v hL hx h13 d hy h6
                · exact parse_far13 s w hs hv x y v hL hx h13 d hy (by omega)
            | z :: r, hL => exact parse_more13 s w hs hv x y z r v hL hx h13
          · exact parse_deed s w hs hv x y r v hL hx h11 h12 h13 ha
      · match rest, hL with
        | [], hL => exact parse_alone s w hs hv x v hL hx h11 ha
        | y :: r, hL => exact parse_alone_more s w hs hv x y r v hL hx h11 ha

theorem parse_means : parseL [103, 101, 116, 32, 50, 46, 99, 111, 105, 110, 32, 102, 114, 111, 109, 32, 99, 104, 101, 115, 116] =
    ({ verb := 7, nth := 2, all := false, name := [99, 111, 105, 110], second := [99, 104, 101, 115, 116], text := [] }, 0) := by rfl

set_option maxHeartbeats 1000000 in
set_option maxRecDepth 100000 in
theorem means_any (w : World) (hv : Vb w) : Calls Tryd.prog 10 #[] w fun e w' => e = .returned (.bool true) ∧ Below w.heap.size w w' := by
  have C1 := hide (fun w' h => parse_any ⟨#[103, 101, 116, 32, 50, 46, 99, 111, 105, 110, 32, 102, 114, 111, 109, 32, 99, 104, 101, 115, 116]⟩ w' (by decide) h)
  rw [show (ByteArray.mk #[103, 101, 116, 32, 50, 46, 99, 111, 105, 110, 32, 102, 114, 111, 109, 32, 99, 104, 101, 115, 116]).data.toList = [103, 101, 116, 32, 50, 46, 99, 111, 105, 110, 32, 102, 114, 111, 109, 32, 99, 104, 101, 115, 116] from rfl, parse_means] at C1
  simp only [Ord.cells] at C1
  have hbt := bs_toList
  replace hv := hide hv
  go_enter Tryd.func10, Tryd.ntmps10
  go_wp2_with fail
  refine (C1.out _ hv.out).mono ?_
  rintro e w1 ⟨rfl, hb1⟩
  go_wp2
  go_ret
  exact ⟨rfl, hb1.alloc hb1.size _⟩
end Go.Proofs.YtfbgaimjjfmfaacDoor
