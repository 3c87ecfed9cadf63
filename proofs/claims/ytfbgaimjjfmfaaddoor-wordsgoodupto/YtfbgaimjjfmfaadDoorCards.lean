/-
  DERIVED. GIVEN WITH THE SEED: THE CARDS: each row of YtfbgaimjjfmfaadDoorRows.lean that lists a variable, with what it lists TIED to the program's text (the seventh form; the later family's looks); each row that meets fmt, with fmt's text TOLD by the authors' own Lean function (tested against real Go, not proved from fmt's source: count such statements apart). THE CARD IS WHAT COUNTS. Prove the row's statement (the work); the ties are given (YtfbgaimjjfmfaadDoorTie.lean); close each card by the builder's one call (the guide's Derived/Test/ToyasCard.lean, 'card_holds'). Laid BY PROGRAM, IN A SANDBOX (cutbox-door.mjs). By AI agents, Wed Nov 11 2026. No macro, syntax, notation, axiom, sorry.
-/
import Derived.Test.YtfbgaimjjfmfaadDoorRows
import GoSem.ClaimSeven
namespace Go.Proofs.YtfbgaimjjfmfaadDoor
namespace Rows

/-- THE TIED CARD OF 'inglenookkeep.WordsShort'. -/
def wordsShortCard : Claim7 := { stood := { row := wordsShortRow, standIns := [], harness := (true, "32caea78527e1dc2270b53961d31674d3e514f7f8c94685ddb86940187fef161"), looks := false }, kinds := [], alts := [], laidByText := true, laidKinds := [.data, .data, .pinned], laidTests := true, laidLooks := .later }
def WordsShortCardSaid : Prop := Claim7.holds Tryd.pinned (.plain (OpenSpec.ofChange wordsShortSpec)) wordsShortCard

/-- THE TIED CARD OF 'inglenookkeep.WordsSpaces'. -/
def wordsSpacesCard : Claim7 := { stood := { row := wordsSpacesRow, standIns := [], harness := (true, "32caea78527e1dc2270b53961d31674d3e514f7f8c94685ddb86940187fef161"), looks := false }, kinds := [], alts := [], laidByText := true, laidKinds := [.data, .data, .pinned], laidTests := true, laidLooks := .later }
def WordsSpacesCardSaid : Prop := Claim7.holds Tryd.pinned (.plain (OpenSpec.ofChange wordsSpacesSpec)) wordsSpacesCard

/-- THE TIED CARD OF 'inglenookkeep.WordsGood'. -/
def wordsGoodCard : Claim7 := { stood := { row := wordsGoodRow, standIns := [], harness := (true, "32caea78527e1dc2270b53961d31674d3e514f7f8c94685ddb86940187fef161"), looks := false }, kinds := [], alts := [], laidByText := true, laidKinds := [.data, .data, .pinned], laidTests := true, laidLooks := .later }
def WordsGoodCardSaid : Prop := Claim7.holds Tryd.pinned (.plain (OpenSpec.ofChange wordsGoodSpec)) wordsGoodCard

/-- THE SECOND FORM's CARD OF 'inglenookkeep.WordsShort'. -/
def wordsShortUptoCard : Claim7 := { stood := { row := wordsShortUptoRow, standIns := [], harness := (true, "32caea78527e1dc2270b53961d31674d3e514f7f8c94685ddb86940187fef161"), looks := false }, kinds := [], alts := [], laidByText := true, laidKinds := [.data, .data, .pinned], laidTests := true, laidLooks := .later }
def WordsShortUptoCardSaid : Prop := Claim7.holds Tryd.pinned (.plain (OpenSpec.upto wordsShortSpec)) wordsShortUptoCard

/-- THE SECOND FORM's CARD OF 'inglenookkeep.WordsSpaces'. -/
def wordsSpacesUptoCard : Claim7 := { stood := { row := wordsSpacesUptoRow, standIns := [], harness := (true, "32caea78527e1dc2270b53961d31674d3e514f7f8c94685ddb86940187fef161"), looks := false }, kinds := [], alts := [], laidByText := true, laidKinds := [.data, .data, .pinned], laidTests := true, laidLooks := .later }
def WordsSpacesUptoCardSaid : Prop := Claim7.holds Tryd.pinned (.plain (OpenSpec.upto wordsSpacesSpec)) wordsSpacesUptoCard

/-- THE SECOND FORM's CARD OF 'inglenookkeep.WordsGood'. -/
def wordsGoodUptoCard : Claim7 := { stood := { row := wordsGoodUptoRow, standIns := [], harness := (true, "32caea78527e1dc2270b53961d31674d3e514f7f8c94685ddb86940187fef161"), looks := false }, kinds := [], alts := [], laidByText := true, laidKinds := [.data, .data, .pinned], laidTests := true, laidLooks := .later }
def WordsGoodUptoCardSaid : Prop := Claim7.holds Tryd.pinned (.plain (OpenSpec.upto wordsGoodSpec)) wordsGoodUptoCard
end Rows
end Go.Proofs.YtfbgaimjjfmfaadDoor
