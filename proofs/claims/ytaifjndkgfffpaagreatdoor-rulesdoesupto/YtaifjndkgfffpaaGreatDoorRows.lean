/-
  NARROWER THAN 'FOR EVERY INPUT', by the rows' own cells (each row's printed sentence says how): RulesDoes: laid.
  DERIVED. THE GIVEN ROWS OF THIS SEAT. 1 by the template 'for every input the law returns true; each argument reads behind the call as it read before'; 0 by the template 'total and deterministic' (their statements: YtaifjndkgfffpaaGreatDoorTotals.lean).
  GIVEN WITH THE SEED: the statements are not yours to turn. If you find one false, say at which input.
  Laid BY PROGRAM, IN A SANDBOX (cutbox-rows.mjs): the forced cells as the released guide's own fill.sh prints them over the translation 62b349c523d27c9e… (all of the seat's roots in one cut). By AI agents, Wed Nov 11 2026. No macro, syntax, notation, axiom, sorry.
-/
import Derived.Test.YtaifjndkgfffpaaGreatDoorChecked
import GoSem.PinnedTables
import GoSem.Claim
import GoSem.ClaimJoined
import GoSem.ClaimMapViews
import Derived.JoinedTies
import Derived.KernelRfl
namespace Go.Proofs.YtaifjndkgfffpaaGreatDoor
/- THE CELL 'sum', in the pinned program and in every row, IS THE sha256 OF THE DUMP (.gsa) THAT YtaifjndkgfffpaaGreatDoorProg.lean LOADS. Nothing in Lean hashes anything: it is a label: what it is worth is what the hold of that sum in a sandbox is worth. -/
noncomputable def Tryz.pinned : Pinned := { name := "ytaifjndkgfffpaagreatdoor", sum := "62b349c523d27c9eaaff36d9a6e3864576c4acc7bf5cbc4094247be2875de6ae", checked := Tryz.checked }
namespace Rows
def none {H : Type} : Left H := { results := [], args := [] }

/- WHAT THE LISTED PACKAGE-LEVEL VARIABLES READ AS WHEN THE CALL BEGINS. Each datum BY PROGRAM (the guide's laid-datum.mjs) off the statement by which the dump's own 'gosem.cut.vars' lays the variable. In a bare row this is a premise. The card (YtaifjndkgfffpaaGreatDoorCards.lean) ties it to the program's text. -/
def laid_unicode_utf8_acceptRanges {H : Type} : DataW H := .agg [.agg [.lit (.int .u8 128), .lit (.int .u8 191)], .agg [.lit (.int .u8 160), .lit (.int .u8 191)], .agg [.lit (.int .u8 128), .lit (.int .u8 159)], .agg [.lit (.int .u8 144), .lit (.int .u8 191)], .agg [.lit (.int .u8 128), .lit (.int .u8 143)], .agg [.lit (.int .u8 0), .lit (.int .u8 0)], .agg [.lit (.int .u8 0), .lit (.int .u8 0)], .agg [.lit (.int .u8 0), .lit (.int .u8 0)], .agg [.lit (.int .u8 0), .lit (.int .u8 0)], .agg [.lit (.int .u8 0), .lit (.int .u8 0)], .agg [.lit (.int .u8 0), .lit (.int .u8 0)], .agg [.lit (.int .u8 0), .lit (.int .u8 0)], .agg [.lit (.int .u8 0), .lit (.int .u8 0)], .agg [.lit (.int .u8 0), .lit (.int .u8 0)], .agg [.lit (.int .u8 0), .lit (.int .u8 0)], .agg [.lit (.int .u8 0), .lit (.int .u8 0)]]
def laid_inglenook_inglenookref_verbs {H : Type} : DataW H := .agg [.lit (.string [110, 111, 114, 116, 104]), .lit (.string [101, 97, 115, 116]), .lit (.string [117, 112]), .lit (.string [115, 111, 117, 116, 104]), .lit (.string [119, 101, 115, 116]), .lit (.string [100, 111, 119, 110]), .lit (.string [108, 111, 111, 107]), .lit (.string [103, 101, 116]), .lit (.string [100, 114, 111, 112]), .lit (.string [112, 117, 116]), .lit (.string [103, 105, 118, 101]), .lit (.string [115, 97, 121]), .lit (.string [111, 112, 101, 110]), .lit (.string [99, 108, 111, 115, 101]), .lit (.string [108, 105, 103, 104, 116]), .lit (.string [100, 111, 117, 115, 101]), .lit (.string [119, 101, 97, 114]), .lit (.string [100, 111, 102, 102]), .lit (.string [104, 105, 116]), .lit (.string [105, 110, 118, 101, 110, 116, 111, 114, 121]), .lit (.string [113, 117, 105, 116])]
def laid_inglenook_words_verbs {H : Type} : DataW H := .agg [.lit (.string [110, 111, 114, 116, 104]), .lit (.string [101, 97, 115, 116]), .lit (.string [117, 112]), .lit (.string [115, 111, 117, 116, 104]), .lit (.string [119, 101, 115, 116]), .lit (.string [100, 111, 119, 110]), .lit (.string [108, 111, 111, 107]), .lit (.string [103, 101, 116]), .lit (.string [100, 114, 111, 112]), .lit (.string [112, 117, 116]), .lit (.string [103, 105, 118, 101]), .lit (.string [115, 97, 121]), .lit (.string [111, 112, 101, 110]), .lit (.string [99, 108, 111, 115, 101]), .lit (.string [108, 105, 103, 104, 116]), .lit (.string [100, 111, 117, 115, 101]), .lit (.string [119, 101, 97, 114]), .lit (.string [100, 111, 102, 102]), .lit (.string [104, 105, 116]), .lit (.string [105, 110, 118, 101, 110, 116, 111, 114, 121]), .lit (.string [113, 117, 105, 116])]
/-- One of Go's own tables, pinned by name: the form's constant. -/
def laid_unicode_utf8_first : DataW Unit := Go.Pinned.utf8First

/-- 'inglenooklaw.RulesDoes': WHATEVER THE INPUT: true; the input reads as it did. -/
def rulesDoesSpec : ChangeSpec := { name := "rulesDoes", fn := fun _ => fun
  | [d1, d2, d3] => { results := [.lit (.bool true)], args := [d1, d2, d3] }
  | _ => none }
def rulesDoesRow : OpenClaim := { program := "ytaifjndkgfffpaagreatdoor", sum := "62b349c523d27c9eaaff36d9a6e3864576c4acc7bf5cbc4094247be2875de6ae", func := "inglenook/inglenooklaw.RulesDoes", spec := "rulesDoes", inPlace := ["internal/bytealg.IndexByteString", "internal/bytealg.IndexString", "internal/bytealg.CountString"], named := ["inglenook/words.verbs", "internal/bytealg.MaxLen", "inglenook/inglenookref.verbs", "unicode/utf8.first", "unicode/utf8.acceptRanges"], apart := false, laid := [("unicode/utf8.acceptRanges", laid_unicode_utf8_acceptRanges), ("inglenook/inglenookref.verbs", laid_inglenook_inglenookref_verbs), ("inglenook/words.verbs", laid_inglenook_words_verbs), ("unicode/utf8.first", laid_unicode_utf8_first)] }
def RulesDoesSaid : Prop := rulesDoesRow.holds Tryz.pinned (OpenSpec.ofChange rulesDoesSpec)

/-- ITS FALSE NEIGHBOUR: 'it returns false'. Refute it at one input. -/
def rulesDoesWrong : ChangeSpec := { name := "rulesDoes", fn := fun _ => fun
  | [d1, d2, d3] => { results := [.lit (.bool false)], args := [d1, d2, d3] }
  | _ => none }
def RulesDoesWrongFalsely : Prop := rulesDoesRow.holds Tryz.pinned (OpenSpec.ofChange rulesDoesWrong)

/- THE SECOND FORM. 'bulk': how many values and letters a reading holds, each counted each time it is reached (what is shared counts as often as it is met; a slice's spare places count too). A statement '..UptoSaid' is the law's where the arguments, and the package variables that the reading takes, are together of bulk at most 1048576: NARROWER than '..Said'. Prove '..Said' where nothing that the law and all that it calls make is longer than what came in: it says more and counts as full. Else prove '..UptoSaid'. A law counts once. -/
mutual
def uptoBulk {H : Type} : DataW H → Nat
  | .lit (.string bytes) => bytes.length + 1
  | .lit _ => 1
  | .nil => 1
  | .ptr d => uptoBulk d + 1
  | .slice elems spare => uptoBulkAll elems + uptoBulkAll spare + 1
  | .agg parts => uptoBulkAll parts + 1
  | .iface _ d => uptoBulk d + 1
  | .map entries => uptoBulkEntries entries + 1
  | .held _ => 1
def uptoBulkAll {H : Type} : List (DataW H) → Nat
  | [] => 0
  | d :: r => uptoBulk d + uptoBulkAll r
def uptoBulkEntries {H : Type} : List (Lit × DataW H) → Nat
  | [] => 0
  | x :: r => uptoBulkEntry x + uptoBulkEntries r
def uptoBulkEntry {H : Type} : Lit × DataW H → Nat
  | (.string bytes, d) => bytes.length + uptoBulk d + 1
  | (_, d) => uptoBulk d + 1
 end
def uptoSmall : (H : Type) → List (DataW H) → Bool := fun _ ds => decide (uptoBulkAll ds ≤ 1048576)
def OpenSpec.upto (s : _root_.Go.ChangeSpec) : _root_.Go.OpenSpec := { _root_.Go.OpenSpec.ofChange s with cond := some uptoSmall }

/-- 'inglenooklaw.RulesDoes', WHERE WHAT IT READS IS OF BULK AT MOST 1048576: true; the input reads as it did. -/
def rulesDoesUptoRow : OpenClaim := { program := "ytaifjndkgfffpaagreatdoor", sum := "62b349c523d27c9eaaff36d9a6e3864576c4acc7bf5cbc4094247be2875de6ae", func := "inglenook/inglenooklaw.RulesDoes", spec := "rulesDoes", inPlace := ["internal/bytealg.IndexByteString", "internal/bytealg.IndexString", "internal/bytealg.CountString"], named := ["inglenook/words.verbs", "internal/bytealg.MaxLen", "inglenook/inglenookref.verbs", "unicode/utf8.first", "unicode/utf8.acceptRanges"], apart := false, laid := [("unicode/utf8.acceptRanges", laid_unicode_utf8_acceptRanges), ("inglenook/inglenookref.verbs", laid_inglenook_inglenookref_verbs), ("inglenook/words.verbs", laid_inglenook_words_verbs), ("unicode/utf8.first", laid_unicode_utf8_first)], narrowed := true }
def RulesDoesUptoSaid : Prop := rulesDoesUptoRow.holds Tryz.pinned (OpenSpec.upto rulesDoesSpec)

end Rows
end Go.Proofs.YtaifjndkgfffpaaGreatDoor
