/-
  No cell of these rows narrows 'for every input' (looked for: loops, veiled, ifaces, maps, wideKeys, modest, calm, conditions, laid).
  DERIVED. THE GIVEN ROWS OF THIS SEAT. 6 by the template 'for every input the law returns true; each argument reads behind the call as it read before'; 0 by the template 'total and deterministic' (their statements: YtbjcmnemcgadjaaTotals.lean).
  GIVEN WITH THE SEED: the statements are not yours to turn. If you find one false, say at which input.
  Laid BY PROGRAM, IN A SANDBOX (cutbox-rows.mjs): the forced cells as the released guide's own fill.sh prints them over the translation 7463b0aa7ab9ea48… (all of the seat's roots in one cut). By AI agents, Wed Nov 11 2026. No macro, syntax, notation, axiom, sorry.
-/
import Derived.Test.YtbjcmnemcgadjaaChecked
import GoSem.Claim
import GoSem.ClaimJoined
import GoSem.ClaimMapViews
import Derived.JoinedTies
import Derived.KernelRfl
namespace Go.Proofs.Ytbjcmnemcgadjaa
/- THE CELL 'sum', in the pinned program and in every row, IS THE sha256 OF THE DUMP (.gsa) THAT YtbjcmnemcgadjaaProg.lean LOADS. Nothing in Lean hashes anything: it is a label: what it is worth is what the hold of that sum in a sandbox is worth. -/
noncomputable def Try.pinned : Pinned := { name := "ytbjcmnemcgadjaa", sum := "7463b0aa7ab9ea481562c7da525348d222f1e5a8347d82ecf56764ccd0788e9e", checked := Try.checked }
namespace Rows
def none {H : Type} : Left H := { results := [], args := [] }

/-- 'inglenooklaw.Names': WHATEVER THE INPUT: true; the input reads as it did. -/
def namesSpec : ChangeSpec := { name := "names", fn := fun _ => fun
  | [] => { results := [.lit (.bool true)], args := [] }
  | _ => none }
def namesRow : OpenClaim := { program := "ytbjcmnemcgadjaa", sum := "7463b0aa7ab9ea481562c7da525348d222f1e5a8347d82ecf56764ccd0788e9e", func := "inglenook/inglenooklaw.Names", spec := "names", apart := false }
def NamesSaid : Prop := namesRow.holds Try.pinned (OpenSpec.ofChange namesSpec)

/-- ITS FALSE NEIGHBOUR: 'it returns false'. Refute it at one input. -/
def namesWrong : ChangeSpec := { name := "names", fn := fun _ => fun
  | [] => { results := [.lit (.bool false)], args := [] }
  | _ => none }
def NamesWrongFalsely : Prop := namesRow.holds Try.pinned (OpenSpec.ofChange namesWrong)

/-- 'inglenooklaw.TelnetFeeds': WHATEVER THE INPUT: true; the input reads as it did. -/
def telnetFeedsSpec : ChangeSpec := { name := "telnetFeeds", fn := fun _ => fun
  | [d1, d2] => { results := [.lit (.bool true)], args := [d1, d2] }
  | _ => none }
def telnetFeedsRow : OpenClaim := { program := "ytbjcmnemcgadjaa", sum := "7463b0aa7ab9ea481562c7da525348d222f1e5a8347d82ecf56764ccd0788e9e", func := "inglenook/inglenooklaw.TelnetFeeds", spec := "telnetFeeds", unfollowed := true, recurses := true, apart := false }
def TelnetFeedsSaid : Prop := telnetFeedsRow.holds Try.pinned (OpenSpec.ofChange telnetFeedsSpec)

/-- ITS FALSE NEIGHBOUR: 'it returns false'. Refute it at one input. -/
def telnetFeedsWrong : ChangeSpec := { name := "telnetFeeds", fn := fun _ => fun
  | [d1, d2] => { results := [.lit (.bool false)], args := [d1, d2] }
  | _ => none }
def TelnetFeedsWrongFalsely : Prop := telnetFeedsRow.holds Try.pinned (OpenSpec.ofChange telnetFeedsWrong)

/-- 'inglenooklaw.TelnetOffers': WHATEVER THE INPUT: true; the input reads as it did. -/
def telnetOffersSpec : ChangeSpec := { name := "telnetOffers", fn := fun _ => fun
  | [d1, d2] => { results := [.lit (.bool true)], args := [d1, d2] }
  | _ => none }
def telnetOffersRow : OpenClaim := { program := "ytbjcmnemcgadjaa", sum := "7463b0aa7ab9ea481562c7da525348d222f1e5a8347d82ecf56764ccd0788e9e", func := "inglenook/inglenooklaw.TelnetOffers", spec := "telnetOffers", apart := false }
def TelnetOffersSaid : Prop := telnetOffersRow.holds Try.pinned (OpenSpec.ofChange telnetOffersSpec)

/-- ITS FALSE NEIGHBOUR: 'it returns false'. Refute it at one input. -/
def telnetOffersWrong : ChangeSpec := { name := "telnetOffers", fn := fun _ => fun
  | [d1, d2] => { results := [.lit (.bool false)], args := [d1, d2] }
  | _ => none }
def TelnetOffersWrongFalsely : Prop := telnetOffersRow.holds Try.pinned (OpenSpec.ofChange telnetOffersWrong)

/-- 'inglenookkeep.TelnetParts': WHATEVER THE INPUT: true; the input reads as it did. -/
def telnetPartsSpec : ChangeSpec := { name := "telnetParts", fn := fun _ => fun
  | [d1, d2, d3] => { results := [.lit (.bool true)], args := [d1, d2, d3] }
  | _ => none }
def telnetPartsRow : OpenClaim := { program := "ytbjcmnemcgadjaa", sum := "7463b0aa7ab9ea481562c7da525348d222f1e5a8347d82ecf56764ccd0788e9e", func := "inglenook/inglenookkeep.TelnetParts", spec := "telnetParts", apart := false }
def TelnetPartsSaid : Prop := telnetPartsRow.holds Try.pinned (OpenSpec.ofChange telnetPartsSpec)

/-- ITS FALSE NEIGHBOUR: 'it returns false'. Refute it at one input. -/
def telnetPartsWrong : ChangeSpec := { name := "telnetParts", fn := fun _ => fun
  | [d1, d2, d3] => { results := [.lit (.bool false)], args := [d1, d2, d3] }
  | _ => none }
def TelnetPartsWrongFalsely : Prop := telnetPartsRow.holds Try.pinned (OpenSpec.ofChange telnetPartsWrong)

/-- 'inglenookkeep.TelnetEscapes': WHATEVER THE INPUT: true; the input reads as it did. -/
def telnetEscapesSpec : ChangeSpec := { name := "telnetEscapes", fn := fun _ => fun
  | [d1, d2] => { results := [.lit (.bool true)], args := [d1, d2] }
  | _ => none }
def telnetEscapesRow : OpenClaim := { program := "ytbjcmnemcgadjaa", sum := "7463b0aa7ab9ea481562c7da525348d222f1e5a8347d82ecf56764ccd0788e9e", func := "inglenook/inglenookkeep.TelnetEscapes", spec := "telnetEscapes", apart := false }
def TelnetEscapesSaid : Prop := telnetEscapesRow.holds Try.pinned (OpenSpec.ofChange telnetEscapesSpec)

/-- ITS FALSE NEIGHBOUR: 'it returns false'. Refute it at one input. -/
def telnetEscapesWrong : ChangeSpec := { name := "telnetEscapes", fn := fun _ => fun
  | [d1, d2] => { results := [.lit (.bool false)], args := [d1, d2] }
  | _ => none }
def TelnetEscapesWrongFalsely : Prop := telnetEscapesRow.holds Try.pinned (OpenSpec.ofChange telnetEscapesWrong)

/-- 'inglenookkeep.TelnetEnds': WHATEVER THE INPUT: true; the input reads as it did. -/
def telnetEndsSpec : ChangeSpec := { name := "telnetEnds", fn := fun _ => fun
  | [d1, d2, d3, d4] => { results := [.lit (.bool true)], args := [d1, d2, d3, d4] }
  | _ => none }
def telnetEndsRow : OpenClaim := { program := "ytbjcmnemcgadjaa", sum := "7463b0aa7ab9ea481562c7da525348d222f1e5a8347d82ecf56764ccd0788e9e", func := "inglenook/inglenookkeep.TelnetEnds", spec := "telnetEnds", apart := false }
def TelnetEndsSaid : Prop := telnetEndsRow.holds Try.pinned (OpenSpec.ofChange telnetEndsSpec)

/-- ITS FALSE NEIGHBOUR: 'it returns false'. Refute it at one input. -/
def telnetEndsWrong : ChangeSpec := { name := "telnetEnds", fn := fun _ => fun
  | [d1, d2, d3, d4] => { results := [.lit (.bool false)], args := [d1, d2, d3, d4] }
  | _ => none }
def TelnetEndsWrongFalsely : Prop := telnetEndsRow.holds Try.pinned (OpenSpec.ofChange telnetEndsWrong)

/- THE SECOND FORM. 'bulk': how many values and letters a reading holds, each counted each time it is reached (what is shared counts as often as it is met; a slice's spare places count too). A statement '..UptoSaid' is the law's where the arguments, and the package variables that the reading takes, are together of bulk at most 1048576: NARROWER than '..Said'. Prove '..Said' where nothing that the law and all that it calls make is longer than what came in: it says more and counts as full. Else prove '..UptoSaid'. A law counts once. -/
mutual
def uptoBulk {H : Type} : DataW H → Nat
  | .lit (.string bytes) => bytes.length + 1
  | .lit _ => 1
  | .nil => 1
  | .ptr d => uptoBulk d + 1
  | .slice elems spare => uptoBulkAll elems + uptoBulkAll spare + 1
  | .agg parts => uptoBulkAll parts + 1
  | .iface _ d => uptoBulk d + 1
  | .map entries => uptoBulkEntries entries + 1
  | .held _ => 1
def uptoBulkAll {H : Type} : List (DataW H) → Nat
  | [] => 0
  | d :: r => uptoBulk d + uptoBulkAll r
def uptoBulkEntries {H : Type} : List (Lit × DataW H) → Nat
  | [] => 0
  | x :: r => uptoBulkEntry x + uptoBulkEntries r
def uptoBulkEntry {H : Type} : Lit × DataW H → Nat
  | (.string bytes, d) => bytes.length + uptoBulk d + 1
  | (_, d) => uptoBulk d + 1
 end
def uptoSmall : (H : Type) → List (DataW H) → Bool := fun _ ds => decide (uptoBulkAll ds ≤ 1048576)
def OpenSpec.upto (s : _root_.Go.ChangeSpec) : _root_.Go.OpenSpec := { _root_.Go.OpenSpec.ofChange s with cond := some uptoSmall }

/-- 'inglenooklaw.Names', WHERE WHAT IT READS IS OF BULK AT MOST 1048576: true; the input reads as it did. -/
def namesUptoRow : OpenClaim := { program := "ytbjcmnemcgadjaa", sum := "7463b0aa7ab9ea481562c7da525348d222f1e5a8347d82ecf56764ccd0788e9e", func := "inglenook/inglenooklaw.Names", spec := "names", apart := false, narrowed := true }
def NamesUptoSaid : Prop := namesUptoRow.holds Try.pinned (OpenSpec.upto namesSpec)

/-- 'inglenooklaw.TelnetFeeds', WHERE WHAT IT READS IS OF BULK AT MOST 1048576: true; the input reads as it did. -/
def telnetFeedsUptoRow : OpenClaim := { program := "ytbjcmnemcgadjaa", sum := "7463b0aa7ab9ea481562c7da525348d222f1e5a8347d82ecf56764ccd0788e9e", func := "inglenook/inglenooklaw.TelnetFeeds", spec := "telnetFeeds", unfollowed := true, recurses := true, apart := false, narrowed := true }
def TelnetFeedsUptoSaid : Prop := telnetFeedsUptoRow.holds Try.pinned (OpenSpec.upto telnetFeedsSpec)

/-- 'inglenooklaw.TelnetOffers', WHERE WHAT IT READS IS OF BULK AT MOST 1048576: true; the input reads as it did. -/
def telnetOffersUptoRow : OpenClaim := { program := "ytbjcmnemcgadjaa", sum := "7463b0aa7ab9ea481562c7da525348d222f1e5a8347d82ecf56764ccd0788e9e", func := "inglenook/inglenooklaw.TelnetOffers", spec := "telnetOffers", apart := false, narrowed := true }
def TelnetOffersUptoSaid : Prop := telnetOffersUptoRow.holds Try.pinned (OpenSpec.upto telnetOffersSpec)

/-- 'inglenookkeep.TelnetParts', WHERE WHAT IT READS IS OF BULK AT MOST 1048576: true; the input reads as it did. -/
def telnetPartsUptoRow : OpenClaim := { program := "ytbjcmnemcgadjaa", sum := "7463b0aa7ab9ea481562c7da525348d222f1e5a8347d82ecf56764ccd0788e9e", func := "inglenook/inglenookkeep.TelnetParts", spec := "telnetParts", apart := false, narrowed := true }
def TelnetPartsUptoSaid : Prop := telnetPartsUptoRow.holds Try.pinned (OpenSpec.upto telnetPartsSpec)

/-- 'inglenookkeep.TelnetEscapes', WHERE WHAT IT READS IS OF BULK AT MOST 1048576: true; the input reads as it did. -/
def telnetEscapesUptoRow : OpenClaim := { program := "ytbjcmnemcgadjaa", sum := "7463b0aa7ab9ea481562c7da525348d222f1e5a8347d82ecf56764ccd0788e9e", func := "inglenook/inglenookkeep.TelnetEscapes", spec := "telnetEscapes", apart := false, narrowed := true }
def TelnetEscapesUptoSaid : Prop := telnetEscapesUptoRow.holds Try.pinned (OpenSpec.upto telnetEscapesSpec)

/-- 'inglenookkeep.TelnetEnds', WHERE WHAT IT READS IS OF BULK AT MOST 1048576: true; the input reads as it did. -/
def telnetEndsUptoRow : OpenClaim := { program := "ytbjcmnemcgadjaa", sum := "7463b0aa7ab9ea481562c7da525348d222f1e5a8347d82ecf56764ccd0788e9e", func := "inglenook/inglenookkeep.TelnetEnds", spec := "telnetEnds", apart := false, narrowed := true }
def TelnetEndsUptoSaid : Prop := telnetEndsUptoRow.holds Try.pinned (OpenSpec.upto telnetEndsSpec)

end Rows
end Go.Proofs.Ytbjcmnemcgadjaa
