/-
  DERIVED. GIVEN WITH THE SEED: THE CARDS: each row of YtaifjndkgfffpaaDoorRows.lean that lists a variable, with what it lists TIED to the program's text (the seventh form; the later family's looks); each row that meets fmt, with fmt's text TOLD by the authors' own Lean function (tested against real Go, not proved from fmt's source: count such statements apart). THE CARD IS WHAT COUNTS. Prove the row's statement (the work); the ties are given (YtaifjndkgfffpaaDoorTie.lean); close each card by the builder's one call (the guide's Derived/Test/ToyasCard.lean, 'card_holds'). Laid BY PROGRAM, IN A SANDBOX (cutbox-door.mjs). By AI agents, Wed Nov 11 2026. No macro, syntax, notation, axiom, sorry.
-/
import Derived.Test.YtaifjndkgfffpaaDoorRows
import GoSem.ClaimSeven
namespace Go.Proofs.YtaifjndkgfffpaaDoor
namespace Rows

/-- THE TIED CARD OF 'inglenooklaw.RulesEnters'. -/
def rulesEntersCard : Claim7 := { stood := { row := rulesEntersRow, standIns := [], harness := (true, "e89554b28eb34b464e47424458a6982e31a1203d80858b7c3143d05fb6cb9b5b"), looks := false }, kinds := [], alts := [], laidByText := true, laidKinds := [.data, .data], laidTests := true, laidLooks := .later }
def RulesEntersCardSaid : Prop := Claim7.holds Tryd.pinned (.plain (OpenSpec.ofChange rulesEntersSpec)) rulesEntersCard

/-- THE TIED CARD OF 'inglenooklaw.RulesFights'. -/
def rulesFightsCard : Claim7 := { stood := { row := rulesFightsRow, standIns := [], harness := (true, "e89554b28eb34b464e47424458a6982e31a1203d80858b7c3143d05fb6cb9b5b"), looks := false }, kinds := [], alts := [], laidByText := true, laidKinds := [.data, .data], laidTests := true, laidLooks := .later }
def RulesFightsCardSaid : Prop := Claim7.holds Tryd.pinned (.plain (OpenSpec.ofChange rulesFightsSpec)) rulesFightsCard

/-- THE TIED CARD OF 'inglenookkeep.RulesKeep'. -/
def rulesKeepCard : Claim7 := { stood := { row := rulesKeepRow, standIns := [], harness := (true, "e89554b28eb34b464e47424458a6982e31a1203d80858b7c3143d05fb6cb9b5b"), looks := false }, kinds := [], alts := [], laidByText := true, laidKinds := [.data], laidTests := true, laidLooks := .later }
def RulesKeepCardSaid : Prop := Claim7.holds Tryd.pinned (.plain (OpenSpec.ofChange rulesKeepSpec)) rulesKeepCard

/-- THE TIED CARD OF 'inglenookkeep.RulesFar'. -/
def rulesFarCard : Claim7 := { stood := { row := rulesFarRow, standIns := [], harness := (true, "e89554b28eb34b464e47424458a6982e31a1203d80858b7c3143d05fb6cb9b5b"), looks := false }, kinds := [], alts := [], laidByText := true, laidKinds := [.data, .data, .data, .data], laidTests := true, laidLooks := .later }
def RulesFarCardSaid : Prop := Claim7.holds Tryd.pinned (.plain (OpenSpec.ofChange rulesFarSpec)) rulesFarCard

/-- THE TIED CARD OF 'inglenookkeep.RulesDoors'. -/
def rulesDoorsCard : Claim7 := { stood := { row := rulesDoorsRow, standIns := [], harness := (true, "e89554b28eb34b464e47424458a6982e31a1203d80858b7c3143d05fb6cb9b5b"), looks := false }, kinds := [], alts := [], laidByText := true, laidKinds := [.data], laidTests := true, laidLooks := .later }
def RulesDoorsCardSaid : Prop := Claim7.holds Tryd.pinned (.plain (OpenSpec.ofChange rulesDoorsSpec)) rulesDoorsCard

/-- THE TIED CARD OF 'inglenookkeep.RulesLosses'. -/
def rulesLossesCard : Claim7 := { stood := { row := rulesLossesRow, standIns := [], harness := (true, "e89554b28eb34b464e47424458a6982e31a1203d80858b7c3143d05fb6cb9b5b"), looks := false }, kinds := [], alts := [], laidByText := true, laidKinds := [.data], laidTests := true, laidLooks := .later }
def RulesLossesCardSaid : Prop := Claim7.holds Tryd.pinned (.plain (OpenSpec.ofChange rulesLossesSpec)) rulesLossesCard

/-- THE SECOND FORM's CARD OF 'inglenooklaw.RulesEnters'. -/
def rulesEntersUptoCard : Claim7 := { stood := { row := rulesEntersUptoRow, standIns := [], harness := (true, "e89554b28eb34b464e47424458a6982e31a1203d80858b7c3143d05fb6cb9b5b"), looks := false }, kinds := [], alts := [], laidByText := true, laidKinds := [.data, .data], laidTests := true, laidLooks := .later }
def RulesEntersUptoCardSaid : Prop := Claim7.holds Tryd.pinned (.plain (OpenSpec.upto rulesEntersSpec)) rulesEntersUptoCard

/-- THE SECOND FORM's CARD OF 'inglenooklaw.RulesFights'. -/
def rulesFightsUptoCard : Claim7 := { stood := { row := rulesFightsUptoRow, standIns := [], harness := (true, "e89554b28eb34b464e47424458a6982e31a1203d80858b7c3143d05fb6cb9b5b"), looks := false }, kinds := [], alts := [], laidByText := true, laidKinds := [.data, .data], laidTests := true, laidLooks := .later }
def RulesFightsUptoCardSaid : Prop := Claim7.holds Tryd.pinned (.plain (OpenSpec.upto rulesFightsSpec)) rulesFightsUptoCard

/-- THE SECOND FORM's CARD OF 'inglenookkeep.RulesKeep'. -/
def rulesKeepUptoCard : Claim7 := { stood := { row := rulesKeepUptoRow, standIns := [], harness := (true, "e89554b28eb34b464e47424458a6982e31a1203d80858b7c3143d05fb6cb9b5b"), looks := false }, kinds := [], alts := [], laidByText := true, laidKinds := [.data], laidTests := true, laidLooks := .later }
def RulesKeepUptoCardSaid : Prop := Claim7.holds Tryd.pinned (.plain (OpenSpec.upto rulesKeepSpec)) rulesKeepUptoCard

/-- THE SECOND FORM's CARD OF 'inglenookkeep.RulesFar'. -/
def rulesFarUptoCard : Claim7 := { stood := { row := rulesFarUptoRow, standIns := [], harness := (true, "e89554b28eb34b464e47424458a6982e31a1203d80858b7c3143d05fb6cb9b5b"), looks := false }, kinds := [], alts := [], laidByText := true, laidKinds := [.data, .data, .data, .data], laidTests := true, laidLooks := .later }
def RulesFarUptoCardSaid : Prop := Claim7.holds Tryd.pinned (.plain (OpenSpec.upto rulesFarSpec)) rulesFarUptoCard

/-- THE SECOND FORM's CARD OF 'inglenookkeep.RulesDoors'. -/
def rulesDoorsUptoCard : Claim7 := { stood := { row := rulesDoorsUptoRow, standIns := [], harness := (true, "e89554b28eb34b464e47424458a6982e31a1203d80858b7c3143d05fb6cb9b5b"), looks := false }, kinds := [], alts := [], laidByText := true, laidKinds := [.data], laidTests := true, laidLooks := .later }
def RulesDoorsUptoCardSaid : Prop := Claim7.holds Tryd.pinned (.plain (OpenSpec.upto rulesDoorsSpec)) rulesDoorsUptoCard

/-- THE SECOND FORM's CARD OF 'inglenookkeep.RulesLosses'. -/
def rulesLossesUptoCard : Claim7 := { stood := { row := rulesLossesUptoRow, standIns := [], harness := (true, "e89554b28eb34b464e47424458a6982e31a1203d80858b7c3143d05fb6cb9b5b"), looks := false }, kinds := [], alts := [], laidByText := true, laidKinds := [.data], laidTests := true, laidLooks := .later }
def RulesLossesUptoCardSaid : Prop := Claim7.holds Tryd.pinned (.plain (OpenSpec.upto rulesLossesSpec)) rulesLossesUptoCard
end Rows
end Go.Proofs.YtaifjndkgfffpaaDoor
