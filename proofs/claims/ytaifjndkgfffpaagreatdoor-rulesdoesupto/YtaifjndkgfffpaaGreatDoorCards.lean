/-
  DERIVED. GIVEN WITH THE SEED: THE CARDS: each row of YtaifjndkgfffpaaGreatDoorRows.lean that lists a variable, with what it lists TIED to the program's text (the seventh form; the later family's looks); each row that meets fmt, with fmt's text TOLD by the authors' own Lean function (tested against real Go, not proved from fmt's source: count such statements apart). THE CARD IS WHAT COUNTS. Prove the row's statement (the work); the ties are given (YtaifjndkgfffpaaGreatDoorTie.lean); close each card by the builder's one call (the guide's Derived/Test/ToyasCard.lean, 'card_holds'). Laid BY PROGRAM, IN A SANDBOX (cutbox-door.mjs). By AI agents, Wed Nov 11 2026. No macro, syntax, notation, axiom, sorry.
-/
import Derived.Test.YtaifjndkgfffpaaGreatDoorRows
import GoSem.ClaimSeven
namespace Go.Proofs.YtaifjndkgfffpaaGreatDoor
namespace Rows

/-- THE TIED CARD OF 'inglenooklaw.RulesDoes'. -/
def rulesDoesCard : Claim7 := { stood := { row := rulesDoesRow, standIns := [], harness := (true, "32deb6e94a741d0dfe91e22be0b08c6a9d91ebb12afa9953e93fcef89ffb4eae"), looks := false }, kinds := [], alts := [], laidByText := true, laidKinds := [.data, .data, .data, .pinned], laidTests := true, laidLooks := .later }
def RulesDoesCardSaid : Prop := Claim7.holds Tryz.pinned (.plain (OpenSpec.ofChange rulesDoesSpec)) rulesDoesCard

/-- THE SECOND FORM's CARD OF 'inglenooklaw.RulesDoes'. -/
def rulesDoesUptoCard : Claim7 := { stood := { row := rulesDoesUptoRow, standIns := [], harness := (true, "32deb6e94a741d0dfe91e22be0b08c6a9d91ebb12afa9953e93fcef89ffb4eae"), looks := false }, kinds := [], alts := [], laidByText := true, laidKinds := [.data, .data, .data, .pinned], laidTests := true, laidLooks := .later }
def RulesDoesUptoCardSaid : Prop := Claim7.holds Tryz.pinned (.plain (OpenSpec.upto rulesDoesSpec)) rulesDoesUptoCard
end Rows
end Go.Proofs.YtaifjndkgfffpaaGreatDoor
