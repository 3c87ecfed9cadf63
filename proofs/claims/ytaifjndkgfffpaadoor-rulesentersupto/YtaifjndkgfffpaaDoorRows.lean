/-
  NARROWER THAN 'FOR EVERY INPUT', by the rows' own cells (each row's printed sentence says how): RulesEnters: laid · RulesFights: laid · RulesKeep: laid · RulesFar: laid · RulesDoors: laid · RulesLosses: laid.
  DERIVED. THE GIVEN ROWS OF THIS SEAT. 6 by the template 'for every input the law returns true; each argument reads behind the call as it read before'; 0 by the template 'total and deterministic' (their statements: YtaifjndkgfffpaaDoorTotals.lean).
  GIVEN WITH THE SEED: the statements are not yours to turn. If you find one false, say at which input.
  Laid BY PROGRAM, IN A SANDBOX (cutbox-rows.mjs): the forced cells as the released guide's own fill.sh prints them over the translation 76791285aab9891e… (all of the seat's roots in one cut). By AI agents, Wed Nov 11 2026. No macro, syntax, notation, axiom, sorry.
-/
import Derived.Test.YtaifjndkgfffpaaDoorChecked
import GoSem.Claim
import GoSem.ClaimJoined
import GoSem.ClaimMapViews
import Derived.JoinedTies
import Derived.KernelRfl
namespace Go.Proofs.YtaifjndkgfffpaaDoor
/- THE CELL 'sum', in the pinned program and in every row, IS THE sha256 OF THE DUMP (.gsa) THAT YtaifjndkgfffpaaDoorProg.lean LOADS. Nothing in Lean hashes anything: it is a label: what it is worth is what the hold of that sum in a sandbox is worth. -/
noncomputable def Tryd.pinned : Pinned := { name := "ytaifjndkgfffpaadoor", sum := "76791285aab9891e287689bbf19c3b1529f61bbbd5f38bc4d087fa6f9c2c1630", checked := Tryd.checked }
namespace Rows
def none {H : Type} : Left H := { results := [], args := [] }

/- WHAT THE LISTED PACKAGE-LEVEL VARIABLES READ AS WHEN THE CALL BEGINS. Each datum BY PROGRAM (the guide's laid-datum.mjs) off the statement by which the dump's own 'gosem.cut.vars' lays the variable. In a bare row this is a premise. The card (YtaifjndkgfffpaaDoorCards.lean) ties it to the program's text. -/
def laid_inglenook_inglenookref_verbs {H : Type} : DataW H := .agg [.lit (.string [110, 111, 114, 116, 104]), .lit (.string [101, 97, 115, 116]), .lit (.string [117, 112]), .lit (.string [115, 111, 117, 116, 104]), .lit (.string [119, 101, 115, 116]), .lit (.string [100, 111, 119, 110]), .lit (.string [108, 111, 111, 107]), .lit (.string [103, 101, 116]), .lit (.string [100, 114, 111, 112]), .lit (.string [112, 117, 116]), .lit (.string [103, 105, 118, 101]), .lit (.string [115, 97, 121]), .lit (.string [111, 112, 101, 110]), .lit (.string [99, 108, 111, 115, 101]), .lit (.string [108, 105, 103, 104, 116]), .lit (.string [100, 111, 117, 115, 101]), .lit (.string [119, 101, 97, 114]), .lit (.string [100, 111, 102, 102]), .lit (.string [104, 105, 116]), .lit (.string [105, 110, 118, 101, 110, 116, 111, 114, 121]), .lit (.string [113, 117, 105, 116])]
def laid_inglenook_words_verbs {H : Type} : DataW H := .agg [.lit (.string [110, 111, 114, 116, 104]), .lit (.string [101, 97, 115, 116]), .lit (.string [117, 112]), .lit (.string [115, 111, 117, 116, 104]), .lit (.string [119, 101, 115, 116]), .lit (.string [100, 111, 119, 110]), .lit (.string [108, 111, 111, 107]), .lit (.string [103, 101, 116]), .lit (.string [100, 114, 111, 112]), .lit (.string [112, 117, 116]), .lit (.string [103, 105, 118, 101]), .lit (.string [115, 97, 121]), .lit (.string [111, 112, 101, 110]), .lit (.string [99, 108, 111, 115, 101]), .lit (.string [108, 105, 103, 104, 116]), .lit (.string [100, 111, 117, 115, 101]), .lit (.string [119, 101, 97, 114]), .lit (.string [100, 111, 102, 102]), .lit (.string [104, 105, 116]), .lit (.string [105, 110, 118, 101, 110, 116, 111, 114, 121]), .lit (.string [113, 117, 105, 116])]
def laid_math_bits_deBruijn32tab {H : Type} : DataW H := .agg [.lit (.int .u8 0), .lit (.int .u8 1), .lit (.int .u8 28), .lit (.int .u8 2), .lit (.int .u8 29), .lit (.int .u8 14), .lit (.int .u8 24), .lit (.int .u8 3), .lit (.int .u8 30), .lit (.int .u8 22), .lit (.int .u8 20), .lit (.int .u8 15), .lit (.int .u8 25), .lit (.int .u8 17), .lit (.int .u8 4), .lit (.int .u8 8), .lit (.int .u8 31), .lit (.int .u8 27), .lit (.int .u8 13), .lit (.int .u8 23), .lit (.int .u8 21), .lit (.int .u8 19), .lit (.int .u8 16), .lit (.int .u8 7), .lit (.int .u8 26), .lit (.int .u8 12), .lit (.int .u8 18), .lit (.int .u8 6), .lit (.int .u8 11), .lit (.int .u8 5), .lit (.int .u8 10), .lit (.int .u8 9)]
def laid_math_bits_deBruijn64tab {H : Type} : DataW H := .agg [.lit (.int .u8 0), .lit (.int .u8 1), .lit (.int .u8 56), .lit (.int .u8 2), .lit (.int .u8 57), .lit (.int .u8 49), .lit (.int .u8 28), .lit (.int .u8 3), .lit (.int .u8 61), .lit (.int .u8 58), .lit (.int .u8 42), .lit (.int .u8 50), .lit (.int .u8 38), .lit (.int .u8 29), .lit (.int .u8 17), .lit (.int .u8 4), .lit (.int .u8 62), .lit (.int .u8 47), .lit (.int .u8 59), .lit (.int .u8 36), .lit (.int .u8 45), .lit (.int .u8 43), .lit (.int .u8 51), .lit (.int .u8 22), .lit (.int .u8 53), .lit (.int .u8 39), .lit (.int .u8 33), .lit (.int .u8 30), .lit (.int .u8 24), .lit (.int .u8 18), .lit (.int .u8 12), .lit (.int .u8 5), .lit (.int .u8 63), .lit (.int .u8 55), .lit (.int .u8 48), .lit (.int .u8 27), .lit (.int .u8 60), .lit (.int .u8 41), .lit (.int .u8 37), .lit (.int .u8 16), .lit (.int .u8 46), .lit (.int .u8 35), .lit (.int .u8 44), .lit (.int .u8 21), .lit (.int .u8 52), .lit (.int .u8 32), .lit (.int .u8 23), .lit (.int .u8 11), .lit (.int .u8 54), .lit (.int .u8 26), .lit (.int .u8 40), .lit (.int .u8 15), .lit (.int .u8 34), .lit (.int .u8 20), .lit (.int .u8 31), .lit (.int .u8 10), .lit (.int .u8 25), .lit (.int .u8 14), .lit (.int .u8 19), .lit (.int .u8 9), .lit (.int .u8 13), .lit (.int .u8 8), .lit (.int .u8 7), .lit (.int .u8 6)]
def laid_internal_strconv_uint64pow10 {H : Type} : DataW H := .agg [.lit (.int .u64 1), .lit (.int .u64 10), .lit (.int .u64 100), .lit (.int .u64 1000), .lit (.int .u64 10000), .lit (.int .u64 100000), .lit (.int .u64 1000000), .lit (.int .u64 10000000), .lit (.int .u64 100000000), .lit (.int .u64 1000000000), .lit (.int .u64 10000000000), .lit (.int .u64 100000000000), .lit (.int .u64 1000000000000), .lit (.int .u64 10000000000000), .lit (.int .u64 100000000000000), .lit (.int .u64 1000000000000000), .lit (.int .u64 10000000000000000), .lit (.int .u64 100000000000000000), .lit (.int .u64 1000000000000000000), .lit (.int .u64 10000000000000000000)]

/-- 'inglenooklaw.RulesEnters': WHATEVER THE INPUT: true; the input reads as it did. -/
def rulesEntersSpec : ChangeSpec := { name := "rulesEnters", fn := fun _ => fun
  | [d1, d2] => { results := [.lit (.bool true)], args := [d1, d2] }
  | _ => none }
def rulesEntersRow : OpenClaim := { program := "ytaifjndkgfffpaadoor", sum := "76791285aab9891e287689bbf19c3b1529f61bbbd5f38bc4d087fa6f9c2c1630", func := "inglenook/inglenooklaw.RulesEnters", spec := "rulesEnters", inPlace := ["internal/bytealg.IndexByteString", "internal/bytealg.IndexString"], named := ["inglenook/words.verbs", "inglenook/inglenookref.verbs", "internal/bytealg.MaxLen"], apart := false, laid := [("inglenook/inglenookref.verbs", laid_inglenook_inglenookref_verbs), ("inglenook/words.verbs", laid_inglenook_words_verbs)] }
def RulesEntersSaid : Prop := rulesEntersRow.holds Tryd.pinned (OpenSpec.ofChange rulesEntersSpec)

/-- ITS FALSE NEIGHBOUR: 'it returns false'. Refute it at one input. -/
def rulesEntersWrong : ChangeSpec := { name := "rulesEnters", fn := fun _ => fun
  | [d1, d2] => { results := [.lit (.bool false)], args := [d1, d2] }
  | _ => none }
def RulesEntersWrongFalsely : Prop := rulesEntersRow.holds Tryd.pinned (OpenSpec.ofChange rulesEntersWrong)

/-- 'inglenooklaw.RulesFights': WHATEVER THE INPUT: true; the input reads as it did. -/
def rulesFightsSpec : ChangeSpec := { name := "rulesFights", fn := fun _ => fun
  | [d1, d2] => { results := [.lit (.bool true)], args := [d1, d2] }
  | _ => none }
def rulesFightsRow : OpenClaim := { program := "ytaifjndkgfffpaadoor", sum := "76791285aab9891e287689bbf19c3b1529f61bbbd5f38bc4d087fa6f9c2c1630", func := "inglenook/inglenooklaw.RulesFights", spec := "rulesFights", inPlace := ["internal/bytealg.IndexByteString", "internal/bytealg.IndexString"], named := ["inglenook/words.verbs", "inglenook/inglenookref.verbs", "internal/bytealg.MaxLen"], apart := false, laid := [("inglenook/inglenookref.verbs", laid_inglenook_inglenookref_verbs), ("inglenook/words.verbs", laid_inglenook_words_verbs)] }
def RulesFightsSaid : Prop := rulesFightsRow.holds Tryd.pinned (OpenSpec.ofChange rulesFightsSpec)

/-- ITS FALSE NEIGHBOUR: 'it returns false'. Refute it at one input. -/
def rulesFightsWrong : ChangeSpec := { name := "rulesFights", fn := fun _ => fun
  | [d1, d2] => { results := [.lit (.bool false)], args := [d1, d2] }
  | _ => none }
def RulesFightsWrongFalsely : Prop := rulesFightsRow.holds Tryd.pinned (OpenSpec.ofChange rulesFightsWrong)

/-- 'inglenookkeep.RulesKeep': WHATEVER THE INPUT: true; the input reads as it did. -/
def rulesKeepSpec : ChangeSpec := { name := "rulesKeep", fn := fun _ => fun
  | [d1, d2, d3] => { results := [.lit (.bool true)], args := [d1, d2, d3] }
  | _ => none }
def rulesKeepRow : OpenClaim := { program := "ytaifjndkgfffpaadoor", sum := "76791285aab9891e287689bbf19c3b1529f61bbbd5f38bc4d087fa6f9c2c1630", func := "inglenook/inglenookkeep.RulesKeep", spec := "rulesKeep", inPlace := ["internal/bytealg.IndexByteString", "internal/bytealg.IndexString"], named := ["inglenook/words.verbs", "internal/bytealg.MaxLen"], apart := false, laid := [("inglenook/words.verbs", laid_inglenook_words_verbs)] }
def RulesKeepSaid : Prop := rulesKeepRow.holds Tryd.pinned (OpenSpec.ofChange rulesKeepSpec)

/-- ITS FALSE NEIGHBOUR: 'it returns false'. Refute it at one input. -/
def rulesKeepWrong : ChangeSpec := { name := "rulesKeep", fn := fun _ => fun
  | [d1, d2, d3] => { results := [.lit (.bool false)], args := [d1, d2, d3] }
  | _ => none }
def RulesKeepWrongFalsely : Prop := rulesKeepRow.holds Tryd.pinned (OpenSpec.ofChange rulesKeepWrong)

/-- 'inglenookkeep.RulesFar': WHATEVER THE INPUT: true; the input reads as it did. -/
def rulesFarSpec : ChangeSpec := { name := "rulesFar", fn := fun _ => fun
  | [d1, d2, d3, d4] => { results := [.lit (.bool true)], args := [d1, d2, d3, d4] }
  | _ => none }
def rulesFarRow : OpenClaim := { program := "ytaifjndkgfffpaadoor", sum := "76791285aab9891e287689bbf19c3b1529f61bbbd5f38bc4d087fa6f9c2c1630", func := "inglenook/inglenookkeep.RulesFar", spec := "rulesFar", inPlace := ["internal/bytealg.IndexByteString", "internal/bytealg.IndexString"], named := ["inglenook/words.verbs", "internal/bytealg.MaxLen", "internal/strconv.uint64pow10", "math/bits.deBruijn32tab", "math/bits.deBruijn64tab"], apart := false, laid := [("math/bits.deBruijn32tab", laid_math_bits_deBruijn32tab), ("math/bits.deBruijn64tab", laid_math_bits_deBruijn64tab), ("internal/strconv.uint64pow10", laid_internal_strconv_uint64pow10), ("inglenook/words.verbs", laid_inglenook_words_verbs)] }
def RulesFarSaid : Prop := rulesFarRow.holds Tryd.pinned (OpenSpec.ofChange rulesFarSpec)

/-- ITS FALSE NEIGHBOUR: 'it returns false'. Refute it at one input. -/
def rulesFarWrong : ChangeSpec := { name := "rulesFar", fn := fun _ => fun
  | [d1, d2, d3, d4] => { results := [.lit (.bool false)], args := [d1, d2, d3, d4] }
  | _ => none }
def RulesFarWrongFalsely : Prop := rulesFarRow.holds Tryd.pinned (OpenSpec.ofChange rulesFarWrong)

/-- 'inglenookkeep.RulesDoors': WHATEVER THE INPUT: true; the input reads as it did. -/
def rulesDoorsSpec : ChangeSpec := { name := "rulesDoors", fn := fun _ => fun
  | [d1, d2, d3] => { results := [.lit (.bool true)], args := [d1, d2, d3] }
  | _ => none }
def rulesDoorsRow : OpenClaim := { program := "ytaifjndkgfffpaadoor", sum := "76791285aab9891e287689bbf19c3b1529f61bbbd5f38bc4d087fa6f9c2c1630", func := "inglenook/inglenookkeep.RulesDoors", spec := "rulesDoors", inPlace := ["internal/bytealg.IndexByteString", "internal/bytealg.IndexString"], named := ["inglenook/words.verbs", "internal/bytealg.MaxLen"], apart := false, laid := [("inglenook/words.verbs", laid_inglenook_words_verbs)] }
def RulesDoorsSaid : Prop := rulesDoorsRow.holds Tryd.pinned (OpenSpec.ofChange rulesDoorsSpec)

/-- ITS FALSE NEIGHBOUR: 'it returns false'. Refute it at one input. -/
def rulesDoorsWrong : ChangeSpec := { name := "rulesDoors", fn := fun _ => fun
  | [d1, d2, d3] => { results := [.lit (.bool false)], args := [d1, d2, d3] }
  | _ => none }
def RulesDoorsWrongFalsely : Prop := rulesDoorsRow.holds Tryd.pinned (OpenSpec.ofChange rulesDoorsWrong)

/-- 'inglenookkeep.RulesLosses': WHATEVER THE INPUT: true; the input reads as it did. -/
def rulesLossesSpec : ChangeSpec := { name := "rulesLosses", fn := fun _ => fun
  | [d1, d2] => { results := [.lit (.bool true)], args := [d1, d2] }
  | _ => none }
def rulesLossesRow : OpenClaim := { program := "ytaifjndkgfffpaadoor", sum := "76791285aab9891e287689bbf19c3b1529f61bbbd5f38bc4d087fa6f9c2c1630", func := "inglenook/inglenookkeep.RulesLosses", spec := "rulesLosses", inPlace := ["internal/bytealg.IndexByteString", "internal/bytealg.IndexString"], named := ["inglenook/words.verbs", "internal/bytealg.MaxLen"], apart := false, laid := [("inglenook/words.verbs", laid_inglenook_words_verbs)] }
def RulesLossesSaid : Prop := rulesLossesRow.holds Tryd.pinned (OpenSpec.ofChange rulesLossesSpec)

/-- ITS FALSE NEIGHBOUR: 'it returns false'. Refute it at one input. -/
def rulesLossesWrong : ChangeSpec := { name := "rulesLosses", fn := fun _ => fun
  | [d1, d2] => { results := [.lit (.bool false)], args := [d1, d2] }
  | _ => none }
def RulesLossesWrongFalsely : Prop := rulesLossesRow.holds Tryd.pinned (OpenSpec.ofChange rulesLossesWrong)

/- THE SECOND FORM. 'bulk': how many values and letters a reading holds, each counted each time it is reached (what is shared counts as often as it is met; a slice's spare places count too). A statement '..UptoSaid' is the law's where the arguments, and the package variables that the reading takes, are together of bulk at most 1048576: NARROWER than '..Said'. Prove '..Said' where nothing that the law and all that it calls make is longer than what came in: it says more and counts as full. Else prove '..UptoSaid'. A law counts once. -/
mutual
def uptoBulk {H : Type} : DataW H → Nat
  | .lit (.string bytes) => bytes.length + 1
  | .lit _ => 1
  | .nil => 1
  | .ptr d => uptoBulk d + 1
  | .slice elems spare => uptoBulkAll elems + uptoBulkAll spare + 1
  | .agg parts => uptoBulkAll parts + 1
  | .iface _ d => uptoBulk d + 1
  | .map entries => uptoBulkEntries entries + 1
  | .held _ => 1
def uptoBulkAll {H : Type} : List (DataW H) → Nat
  | [] => 0
  | d :: r => uptoBulk d + uptoBulkAll r
def uptoBulkEntries {H : Type} : List (Lit × DataW H) → Nat
  | [] => 0
  | x :: r => uptoBulkEntry x + uptoBulkEntries r
def uptoBulkEntry {H : Type} : Lit × DataW H → Nat
  | (.string bytes, d) => bytes.length + uptoBulk d + 1
  | (_, d) => uptoBulk d + 1
 end
def uptoSmall : (H : Type) → List (DataW H) → Bool := fun _ ds => decide (uptoBulkAll ds ≤ 1048576)
def OpenSpec.upto (s : _root_.Go.ChangeSpec) : _root_.Go.OpenSpec := { _root_.Go.OpenSpec.ofChange s with cond := some uptoSmall }

/-- 'inglenooklaw.RulesEnters', WHERE WHAT IT READS IS OF BULK AT MOST 1048576: true; the input reads as it did. -/
def rulesEntersUptoRow : OpenClaim := { program := "ytaifjndkgfffpaadoor", sum := "76791285aab9891e287689bbf19c3b1529f61bbbd5f38bc4d087fa6f9c2c1630", func := "inglenook/inglenooklaw.RulesEnters", spec := "rulesEnters", inPlace := ["internal/bytealg.IndexByteString", "internal/bytealg.IndexString"], named := ["inglenook/words.verbs", "inglenook/inglenookref.verbs", "internal/bytealg.MaxLen"], apart := false, laid := [("inglenook/inglenookref.verbs", laid_inglenook_inglenookref_verbs), ("inglenook/words.verbs", laid_inglenook_words_verbs)], narrowed := true }
def RulesEntersUptoSaid : Prop := rulesEntersUptoRow.holds Tryd.pinned (OpenSpec.upto rulesEntersSpec)

/-- 'inglenooklaw.RulesFights', WHERE WHAT IT READS IS OF BULK AT MOST 1048576: true; the input reads as it did. -/
def rulesFightsUptoRow : OpenClaim := { program := "ytaifjndkgfffpaadoor", sum := "76791285aab9891e287689bbf19c3b1529f61bbbd5f38bc4d087fa6f9c2c1630", func := "inglenook/inglenooklaw.RulesFights", spec := "rulesFights", inPlace := ["internal/bytealg.IndexByteString", "internal/bytealg.IndexString"], named := ["inglenook/words.verbs", "inglenook/inglenookref.verbs", "internal/bytealg.MaxLen"], apart := false, laid := [("inglenook/inglenookref.verbs", laid_inglenook_inglenookref_verbs), ("inglenook/words.verbs", laid_inglenook_words_verbs)], narrowed := true }
def RulesFightsUptoSaid : Prop := rulesFightsUptoRow.holds Tryd.pinned (OpenSpec.upto rulesFightsSpec)

/-- 'inglenookkeep.RulesKeep', WHERE WHAT IT READS IS OF BULK AT MOST 1048576: true; the input reads as it did. -/
def rulesKeepUptoRow : OpenClaim := { program := "ytaifjndkgfffpaadoor", sum := "76791285aab9891e287689bbf19c3b1529f61bbbd5f38bc4d087fa6f9c2c1630", func := "inglenook/inglenookkeep.RulesKeep", spec := "rulesKeep", inPlace := ["internal/bytealg.IndexByteString", "internal/bytealg.IndexString"], named := ["inglenook/words.verbs", "internal/bytealg.MaxLen"], apart := false, laid := [("inglenook/words.verbs", laid_inglenook_words_verbs)], narrowed := true }
def RulesKeepUptoSaid : Prop := rulesKeepUptoRow.holds Tryd.pinned (OpenSpec.upto rulesKeepSpec)

/-- 'inglenookkeep.RulesFar', WHERE WHAT IT READS IS OF BULK AT MOST 1048576: true; the input reads as it did. -/
def rulesFarUptoRow : OpenClaim := { program := "ytaifjndkgfffpaadoor", sum := "76791285aab9891e287689bbf19c3b1529f61bbbd5f38bc4d087fa6f9c2c1630", func := "inglenook/inglenookkeep.RulesFar", spec := "rulesFar", inPlace := ["internal/bytealg.IndexByteString", "internal/bytealg.IndexString"], named := ["inglenook/words.verbs", "internal/bytealg.MaxLen", "internal/strconv.uint64pow10", "math/bits.deBruijn32tab", "math/bits.deBruijn64tab"], apart := false, laid := [("math/bits.deBruijn32tab", laid_math_bits_deBruijn32tab), ("math/bits.deBruijn64tab", laid_math_bits_deBruijn64tab), ("internal/strconv.uint64pow10", laid_internal_strconv_uint64pow10), ("inglenook/words.verbs", laid_inglenook_words_verbs)], narrowed := true }
def RulesFarUptoSaid : Prop := rulesFarUptoRow.holds Tryd.pinned (OpenSpec.upto rulesFarSpec)

/-- 'inglenookkeep.RulesDoors', WHERE WHAT IT READS IS OF BULK AT MOST 1048576: true; the input reads as it did. -/
def rulesDoorsUptoRow : OpenClaim := { program := "ytaifjndkgfffpaadoor", sum := "76791285aab9891e287689bbf19c3b1529f61bbbd5f38bc4d087fa6f9c2c1630", func := "inglenook/inglenookkeep.RulesDoors", spec := "rulesDoors", inPlace := ["internal/bytealg.IndexByteString", "internal/bytealg.IndexString"], named := ["inglenook/words.verbs", "internal/bytealg.MaxLen"], apart := false, laid := [("inglenook/words.verbs", laid_inglenook_words_verbs)], narrowed := true }
def RulesDoorsUptoSaid : Prop := rulesDoorsUptoRow.holds Tryd.pinned (OpenSpec.upto rulesDoorsSpec)

/-- 'inglenookkeep.RulesLosses', WHERE WHAT IT READS IS OF BULK AT MOST 1048576: true; the input reads as it did. -/
def rulesLossesUptoRow : OpenClaim := { program := "ytaifjndkgfffpaadoor", sum := "76791285aab9891e287689bbf19c3b1529f61bbbd5f38bc4d087fa6f9c2c1630", func := "inglenook/inglenookkeep.RulesLosses", spec := "rulesLosses", inPlace := ["internal/bytealg.IndexByteString", "internal/bytealg.IndexString"], named := ["inglenook/words.verbs", "internal/bytealg.MaxLen"], apart := false, laid := [("inglenook/words.verbs", laid_inglenook_words_verbs)], narrowed := true }
def RulesLossesUptoSaid : Prop := rulesLossesUptoRow.holds Tryd.pinned (OpenSpec.upto rulesLossesSpec)

end Rows
end Go.Proofs.YtaifjndkgfffpaaDoor
