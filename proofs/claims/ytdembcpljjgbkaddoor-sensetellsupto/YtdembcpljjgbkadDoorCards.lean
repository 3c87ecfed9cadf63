/-
  DERIVED. GIVEN WITH THE SEED: THE CARDS: each row of YtdembcpljjgbkadDoorRows.lean that lists a variable, with what it lists TIED to the program's text (the seventh form; the later family's looks); each row that meets fmt, with fmt's text TOLD by the authors' own Lean function (tested against real Go, not proved from fmt's source: count such statements apart). THE CARD IS WHAT COUNTS. Prove the row's statement (the work); the ties are given (YtdembcpljjgbkadDoorTie.lean); close each card by the builder's one call (the guide's Derived/Test/ToyasCard.lean, 'card_holds'). Laid BY PROGRAM, IN A SANDBOX (cutbox-door.mjs). By AI agents, Wed Nov 11 2026. No macro, syntax, notation, axiom, sorry.
-/
import Derived.Test.YtdembcpljjgbkadDoorRows
import GoSem.ClaimSeven
namespace Go.Proofs.YtdembcpljjgbkadDoor
namespace Rows

/-- THE TIED CARD OF 'inglenookkeep.WordsShort'. -/
def wordsShortCard : Claim7 := { stood := { row := wordsShortRow, standIns := [], harness := (true, "ef4052a394d53051309561cd935d8a91de8fb10c088d1e611ea217279a9065ee"), looks := false }, kinds := [], alts := [], laidByText := true, laidKinds := [.data, .data, .pinned], laidTests := true, laidLooks := .later }
def WordsShortCardSaid : Prop := Claim7.holds Tryd.pinned (.plain (OpenSpec.ofChange wordsShortSpec)) wordsShortCard

/-- THE TIED CARD OF 'inglenookkeep.WordsSpaces'. -/
def wordsSpacesCard : Claim7 := { stood := { row := wordsSpacesRow, standIns := [], harness := (true, "ef4052a394d53051309561cd935d8a91de8fb10c088d1e611ea217279a9065ee"), looks := false }, kinds := [], alts := [], laidByText := true, laidKinds := [.data, .data, .pinned], laidTests := true, laidLooks := .later }
def WordsSpacesCardSaid : Prop := Claim7.holds Tryd.pinned (.plain (OpenSpec.ofChange wordsSpacesSpec)) wordsSpacesCard

/-- THE TIED CARD OF 'inglenookkeep.WordsGood'. -/
def wordsGoodCard : Claim7 := { stood := { row := wordsGoodRow, standIns := [], harness := (true, "ef4052a394d53051309561cd935d8a91de8fb10c088d1e611ea217279a9065ee"), looks := false }, kinds := [], alts := [], laidByText := true, laidKinds := [.data, .data, .pinned], laidTests := true, laidLooks := .later }
def WordsGoodCardSaid : Prop := Claim7.holds Tryd.pinned (.plain (OpenSpec.ofChange wordsGoodSpec)) wordsGoodCard

/-- THE TIED CARD OF 'inglenooklaw.SensePerceives'. -/
def sensePerceivesCard : Claim7 := { stood := { row := sensePerceivesRow, standIns := [], harness := (true, "ef4052a394d53051309561cd935d8a91de8fb10c088d1e611ea217279a9065ee"), looks := false }, kinds := [], alts := [], laidByText := true, laidKinds := [.data, .data, .data, .data], laidTests := true, laidLooks := .later }
def SensePerceivesCardSaid : Prop := Claim7.holds Tryd.pinned (.plain (OpenSpec.ofChange sensePerceivesSpec)) sensePerceivesCard

/-- THE TIED CARD OF 'inglenooklaw.SenseTells'. -/
def senseTellsCard : Claim7 := { stood := { row := senseTellsRow, standIns := [], harness := (true, "ef4052a394d53051309561cd935d8a91de8fb10c088d1e611ea217279a9065ee"), looks := false }, kinds := [], alts := [], laidByText := true, laidKinds := [.data, .data, .data, .data, .data], laidTests := true, laidLooks := .later }
def SenseTellsCardSaid : Prop := Claim7.holds Tryd.pinned (.plain (OpenSpec.ofChange senseTellsSpec)) senseTellsCard

/-- THE TIED CARD OF 'inglenookkeep.SenseNames'. -/
def senseNamesCard : Claim7 := { stood := { row := senseNamesRow, standIns := [], harness := (true, "ef4052a394d53051309561cd935d8a91de8fb10c088d1e611ea217279a9065ee"), looks := false }, kinds := [], alts := [], laidByText := true, laidKinds := [.data, .data, .data, .data], laidTests := true, laidLooks := .later }
def SenseNamesCardSaid : Prop := Claim7.holds Tryd.pinned (.plain (OpenSpec.ofChange senseNamesSpec)) senseNamesCard

/-- THE SECOND FORM's CARD OF 'inglenookkeep.WordsShort'. -/
def wordsShortUptoCard : Claim7 := { stood := { row := wordsShortUptoRow, standIns := [], harness := (true, "ef4052a394d53051309561cd935d8a91de8fb10c088d1e611ea217279a9065ee"), looks := false }, kinds := [], alts := [], laidByText := true, laidKinds := [.data, .data, .pinned], laidTests := true, laidLooks := .later }
def WordsShortUptoCardSaid : Prop := Claim7.holds Tryd.pinned (.plain (OpenSpec.upto wordsShortSpec)) wordsShortUptoCard

/-- THE SECOND FORM's CARD OF 'inglenookkeep.WordsSpaces'. -/
def wordsSpacesUptoCard : Claim7 := { stood := { row := wordsSpacesUptoRow, standIns := [], harness := (true, "ef4052a394d53051309561cd935d8a91de8fb10c088d1e611ea217279a9065ee"), looks := false }, kinds := [], alts := [], laidByText := true, laidKinds := [.data, .data, .pinned], laidTests := true, laidLooks := .later }
def WordsSpacesUptoCardSaid : Prop := Claim7.holds Tryd.pinned (.plain (OpenSpec.upto wordsSpacesSpec)) wordsSpacesUptoCard

/-- THE SECOND FORM's CARD OF 'inglenookkeep.WordsGood'. -/
def wordsGoodUptoCard : Claim7 := { stood := { row := wordsGoodUptoRow, standIns := [], harness := (true, "ef4052a394d53051309561cd935d8a91de8fb10c088d1e611ea217279a9065ee"), looks := false }, kinds := [], alts := [], laidByText := true, laidKinds := [.data, .data, .pinned], laidTests := true, laidLooks := .later }
def WordsGoodUptoCardSaid : Prop := Claim7.holds Tryd.pinned (.plain (OpenSpec.upto wordsGoodSpec)) wordsGoodUptoCard

/-- THE SECOND FORM's CARD OF 'inglenooklaw.SensePerceives'. -/
def sensePerceivesUptoCard : Claim7 := { stood := { row := sensePerceivesUptoRow, standIns := [], harness := (true, "ef4052a394d53051309561cd935d8a91de8fb10c088d1e611ea217279a9065ee"), looks := false }, kinds := [], alts := [], laidByText := true, laidKinds := [.data, .data, .data, .data], laidTests := true, laidLooks := .later }
def SensePerceivesUptoCardSaid : Prop := Claim7.holds Tryd.pinned (.plain (OpenSpec.upto sensePerceivesSpec)) sensePerceivesUptoCard

/-- THE SECOND FORM's CARD OF 'inglenooklaw.SenseTells'. -/
def senseTellsUptoCard : Claim7 := { stood := { row := senseTellsUptoRow, standIns := [], harness := (true, "ef4052a394d53051309561cd935d8a91de8fb10c088d1e611ea217279a9065ee"), looks := false }, kinds := [], alts := [], laidByText := true, laidKinds := [.data, .data, .data, .data, .data], laidTests := true, laidLooks := .later }
def SenseTellsUptoCardSaid : Prop := Claim7.holds Tryd.pinned (.plain (OpenSpec.upto senseTellsSpec)) senseTellsUptoCard

/-- THE SECOND FORM's CARD OF 'inglenookkeep.SenseNames'. -/
def senseNamesUptoCard : Claim7 := { stood := { row := senseNamesUptoRow, standIns := [], harness := (true, "ef4052a394d53051309561cd935d8a91de8fb10c088d1e611ea217279a9065ee"), looks := false }, kinds := [], alts := [], laidByText := true, laidKinds := [.data, .data, .data, .data], laidTests := true, laidLooks := .later }
def SenseNamesUptoCardSaid : Prop := Claim7.holds Tryd.pinned (.plain (OpenSpec.upto senseNamesSpec)) senseNamesUptoCard
end Rows
end Go.Proofs.YtdembcpljjgbkadDoor
