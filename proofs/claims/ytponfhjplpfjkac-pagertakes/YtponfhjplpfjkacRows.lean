/-
  No cell of these rows narrows 'for every input' (looked for: loops, veiled, ifaces, maps, wideKeys, modest, calm, conditions, laid).
  DERIVED. THE GIVEN ROWS OF THIS SEAT. 3 by the template 'for every input the law returns true; each argument reads behind the call as it read before'; 0 by the template 'total and deterministic' (their statements: YtponfhjplpfjkacTotals.lean).
  GIVEN WITH THE SEED: the statements are not yours to turn. If you find one false, say at which input.
  Laid BY PROGRAM, IN A SANDBOX (cutbox-rows.mjs): the forced cells as the released guide's own fill.sh prints them over the translation ecb95ba07de94b2d… (all of the seat's roots in one cut). By AI agents, Wed Nov 11 2026. No macro, syntax, notation, axiom, sorry.
-/
import Derived.Test.YtponfhjplpfjkacChecked
import GoSem.Claim
import GoSem.ClaimJoined
import GoSem.ClaimMapViews
import Derived.JoinedTies
import Derived.KernelRfl
namespace Go.Proofs.Ytponfhjplpfjkac
/- THE CELL 'sum', in the pinned program and in every row, IS THE sha256 OF THE DUMP (.gsa) THAT YtponfhjplpfjkacProg.lean LOADS. Nothing in Lean hashes anything: it is a label: what it is worth is what the hold of that sum in a sandbox is worth. -/
noncomputable def Try.pinned : Pinned := { name := "ytponfhjplpfjkac", sum := "ecb95ba07de94b2d745fd2cfb10ee1a1b7046aa57729c4f4a93477182d0828e6", checked := Try.checked }
namespace Rows
def none {H : Type} : Left H := { results := [], args := [] }

/-- 'inglenookkeep.PagerShows': WHATEVER THE INPUT: true; the input reads as it did. -/
def pagerShowsSpec : ChangeSpec := { name := "pagerShows", fn := fun _ => fun
  | [d1, d2] => { results := [.lit (.bool true)], args := [d1, d2] }
  | _ => none }
def pagerShowsRow : OpenClaim := { program := "ytponfhjplpfjkac", sum := "ecb95ba07de94b2d745fd2cfb10ee1a1b7046aa57729c4f4a93477182d0828e6", func := "inglenook/inglenookkeep.PagerShows", spec := "pagerShows", apart := false }
def PagerShowsSaid : Prop := pagerShowsRow.holds Try.pinned (OpenSpec.ofChange pagerShowsSpec)

/-- ITS FALSE NEIGHBOUR: 'it returns false'. Refute it at one input. -/
def pagerShowsWrong : ChangeSpec := { name := "pagerShows", fn := fun _ => fun
  | [d1, d2] => { results := [.lit (.bool false)], args := [d1, d2] }
  | _ => none }
def PagerShowsWrongFalsely : Prop := pagerShowsRow.holds Try.pinned (OpenSpec.ofChange pagerShowsWrong)

/-- 'inglenookkeep.PagerTakes': WHATEVER THE INPUT: true; the input reads as it did. -/
def pagerTakesSpec : ChangeSpec := { name := "pagerTakes", fn := fun _ => fun
  | [d1, d2, d3] => { results := [.lit (.bool true)], args := [d1, d2, d3] }
  | _ => none }
def pagerTakesRow : OpenClaim := { program := "ytponfhjplpfjkac", sum := "ecb95ba07de94b2d745fd2cfb10ee1a1b7046aa57729c4f4a93477182d0828e6", func := "inglenook/inglenookkeep.PagerTakes", spec := "pagerTakes", apart := false }
def PagerTakesSaid : Prop := pagerTakesRow.holds Try.pinned (OpenSpec.ofChange pagerTakesSpec)

/-- ITS FALSE NEIGHBOUR: 'it returns false'. Refute it at one input. -/
def pagerTakesWrong : ChangeSpec := { name := "pagerTakes", fn := fun _ => fun
  | [d1, d2, d3] => { results := [.lit (.bool false)], args := [d1, d2, d3] }
  | _ => none }
def PagerTakesWrongFalsely : Prop := pagerTakesRow.holds Try.pinned (OpenSpec.ofChange pagerTakesWrong)

/-- 'inglenookkeep.LandNests': WHATEVER THE INPUT: true; the input reads as it did. -/
def landNestsSpec : ChangeSpec := { name := "landNests", fn := fun _ => fun
  | [d1, d2, d3] => { results := [.lit (.bool true)], args := [d1, d2, d3] }
  | _ => none }
def landNestsRow : OpenClaim := { program := "ytponfhjplpfjkac", sum := "ecb95ba07de94b2d745fd2cfb10ee1a1b7046aa57729c4f4a93477182d0828e6", func := "inglenook/inglenookkeep.LandNests", spec := "landNests", apart := false }
def LandNestsSaid : Prop := landNestsRow.holds Try.pinned (OpenSpec.ofChange landNestsSpec)

/-- ITS FALSE NEIGHBOUR: 'it returns false'. Refute it at one input. -/
def landNestsWrong : ChangeSpec := { name := "landNests", fn := fun _ => fun
  | [d1, d2, d3] => { results := [.lit (.bool false)], args := [d1, d2, d3] }
  | _ => none }
def LandNestsWrongFalsely : Prop := landNestsRow.holds Try.pinned (OpenSpec.ofChange landNestsWrong)

/- THE SECOND FORM. 'bulk': how many values and letters a reading holds, each counted each time it is reached (what is shared counts as often as it is met; a slice's spare places count too). A statement '..UptoSaid' is the law's where the arguments, and the package variables that the reading takes, are together of bulk at most 1048576: NARROWER than '..Said'. Prove '..Said' where nothing that the law and all that it calls make is longer than what came in: it says more and counts as full. Else prove '..UptoSaid'. A law counts once. -/
mutual
def uptoBulk {H : Type} : DataW H → Nat
  | .lit (.string bytes) => bytes.length + 1
  | .lit _ => 1
  | .nil => 1
  | .ptr d => uptoBulk d + 1
  | .slice elems spare => uptoBulkAll elems + uptoBulkAll spare + 1
  | .agg parts => uptoBulkAll parts + 1
  | .iface _ d => uptoBulk d + 1
  | .map entries => uptoBulkEntries entries + 1
  | .held _ => 1
def uptoBulkAll {H : Type} : List (DataW H) → Nat
  | [] => 0
  | d :: r => uptoBulk d + uptoBulkAll r
def uptoBulkEntries {H : Type} : List (Lit × DataW H) → Nat
  | [] => 0
  | x :: r => uptoBulkEntry x + uptoBulkEntries r
def uptoBulkEntry {H : Type} : Lit × DataW H → Nat
  | (.string bytes, d) => bytes.length + uptoBulk d + 1
  | (_, d) => uptoBulk d + 1
 end
def uptoSmall : (H : Type) → List (DataW H) → Bool := fun _ ds => decide (uptoBulkAll ds ≤ 1048576)
def OpenSpec.upto (s : _root_.Go.ChangeSpec) : _root_.Go.OpenSpec := { _root_.Go.OpenSpec.ofChange s with cond := some uptoSmall }

/-- 'inglenookkeep.PagerShows', WHERE WHAT IT READS IS OF BULK AT MOST 1048576: true; the input reads as it did. -/
def pagerShowsUptoRow : OpenClaim := { program := "ytponfhjplpfjkac", sum := "ecb95ba07de94b2d745fd2cfb10ee1a1b7046aa57729c4f4a93477182d0828e6", func := "inglenook/inglenookkeep.PagerShows", spec := "pagerShows", apart := false, narrowed := true }
def PagerShowsUptoSaid : Prop := pagerShowsUptoRow.holds Try.pinned (OpenSpec.upto pagerShowsSpec)

/-- 'inglenookkeep.PagerTakes', WHERE WHAT IT READS IS OF BULK AT MOST 1048576: true; the input reads as it did. -/
def pagerTakesUptoRow : OpenClaim := { program := "ytponfhjplpfjkac", sum := "ecb95ba07de94b2d745fd2cfb10ee1a1b7046aa57729c4f4a93477182d0828e6", func := "inglenook/inglenookkeep.PagerTakes", spec := "pagerTakes", apart := false, narrowed := true }
def PagerTakesUptoSaid : Prop := pagerTakesUptoRow.holds Try.pinned (OpenSpec.upto pagerTakesSpec)

/-- 'inglenookkeep.LandNests', WHERE WHAT IT READS IS OF BULK AT MOST 1048576: true; the input reads as it did. -/
def landNestsUptoRow : OpenClaim := { program := "ytponfhjplpfjkac", sum := "ecb95ba07de94b2d745fd2cfb10ee1a1b7046aa57729c4f4a93477182d0828e6", func := "inglenook/inglenookkeep.LandNests", spec := "landNests", apart := false, narrowed := true }
def LandNestsUptoSaid : Prop := landNestsUptoRow.holds Try.pinned (OpenSpec.upto landNestsSpec)

end Rows
end Go.Proofs.Ytponfhjplpfjkac
