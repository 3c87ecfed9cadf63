/-
  DERIVED. GIVEN WITH THE SEED: THE CARDS: each row of YtfbgaimjjfmfaacDoorRows.lean that lists a variable, with what it lists TIED to the program's text (the seventh form; the later family's looks); each row that meets fmt, with fmt's text TOLD by the authors' own Lean function (tested against real Go, not proved from fmt's source: count such statements apart). THE CARD IS WHAT COUNTS. Prove the row's statement (the work); the ties are given (YtfbgaimjjfmfaacDoorTie.lean); close each card by the builder's one call (the guide's Derived/Test/ToyasCard.lean, 'card_holds'). Laid BY PROGRAM, IN A SANDBOX (cutbox-door.mjs). By AI agents, Wed Nov 11 2026. No macro, syntax, notation, axiom, sorry.
-/
import Derived.Test.YtfbgaimjjfmfaacDoorRows
import GoSem.ClaimSeven
namespace Go.Proofs.YtfbgaimjjfmfaacDoor
namespace Rows

/-- THE TIED CARD OF 'inglenooklaw.WordsParses'. -/
def wordsParsesCard : Claim7 := { stood := { row := wordsParsesRow, standIns := [], harness := (true, "d314ed09a3b1618ce0101cd36a346196653e9566445aeedb809d6490516e6cbf"), looks := false }, kinds := [], alts := [], laidByText := true, laidKinds := [.data, .data, .data, .pinned], laidTests := true, laidLooks := .later }
def WordsParsesCardSaid : Prop := Claim7.holds Tryd.pinned (.plain (OpenSpec.ofChange wordsParsesSpec)) wordsParsesCard

/-- THE TIED CARD OF 'inglenooklaw.WordsMeans'. -/
def wordsMeansCard : Claim7 := { stood := { row := wordsMeansRow, standIns := [], harness := (true, "d314ed09a3b1618ce0101cd36a346196653e9566445aeedb809d6490516e6cbf"), looks := false }, kinds := [], alts := [], laidByText := true, laidKinds := [.data, .data, .data, .pinned], laidTests := true, laidLooks := .later }
def WordsMeansCardSaid : Prop := Claim7.holds Tryd.pinned (.plain (OpenSpec.ofChange wordsMeansSpec)) wordsMeansCard

/-- THE SECOND FORM's CARD OF 'inglenooklaw.WordsParses'. -/
def wordsParsesUptoCard : Claim7 := { stood := { row := wordsParsesUptoRow, standIns := [], harness := (true, "d314ed09a3b1618ce0101cd36a346196653e9566445aeedb809d6490516e6cbf"), looks := false }, kinds := [], alts := [], laidByText := true, laidKinds := [.data, .data, .data, .pinned], laidTests := true, laidLooks := .later }
def WordsParsesUptoCardSaid : Prop := Claim7.holds Tryd.pinned (.plain (OpenSpec.upto wordsParsesSpec)) wordsParsesUptoCard

/-- THE SECOND FORM's CARD OF 'inglenooklaw.WordsMeans'. -/
def wordsMeansUptoCard : Claim7 := { stood := { row := wordsMeansUptoRow, standIns := [], harness := (true, "d314ed09a3b1618ce0101cd36a346196653e9566445aeedb809d6490516e6cbf"), looks := false }, kinds := [], alts := [], laidByText := true, laidKinds := [.data, .data, .data, .pinned], laidTests := true, laidLooks := .later }
def WordsMeansUptoCardSaid : Prop := Claim7.holds Tryd.pinned (.plain (OpenSpec.upto wordsMeansSpec)) wordsMeansUptoCard
end Rows
end Go.Proofs.YtfbgaimjjfmfaacDoor
