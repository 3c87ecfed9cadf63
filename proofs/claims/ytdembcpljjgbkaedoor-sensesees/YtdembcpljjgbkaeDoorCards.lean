/-
  DERIVED. GIVEN WITH THE SEED: THE CARDS: each row of YtdembcpljjgbkaeDoorRows.lean that lists a variable, with what it lists TIED to the program's text (the seventh form; the later family's looks); each row that meets fmt, with fmt's text TOLD by the authors' own Lean function (tested against real Go, not proved from fmt's source: count such statements apart). THE CARD IS WHAT COUNTS. Prove the row's statement (the work); the ties are given (YtdembcpljjgbkaeDoorTie.lean); close each card by the builder's one call (the guide's Derived/Test/ToyasCard.lean, 'card_holds'). Laid BY PROGRAM, IN A SANDBOX (cutbox-door.mjs). By AI agents, Wed Nov 11 2026. No macro, syntax, notation, axiom, sorry.
-/
import Derived.Test.YtdembcpljjgbkaeDoorRows
import GoSem.ClaimSeven
namespace Go.Proofs.YtdembcpljjgbkaeDoor
namespace Rows

/-- THE TIED CARD OF 'inglenookkeep.SenseRooms'. -/
def senseRoomsCard : Claim7 := { stood := { row := senseRoomsRow, standIns := [], harness := (true, "295a6e4438a10f43b516350ee8392a54750a8a75ed0fa612b9c469384f21fa0d"), looks := false }, kinds := [], alts := [], laidByText := true, laidKinds := [.data, .data, .data, .data], laidTests := true, laidLooks := .later }
def SenseRoomsCardSaid : Prop := Claim7.holds Tryd.pinned (.plain (OpenSpec.ofChange senseRoomsSpec)) senseRoomsCard

/-- THE TIED CARD OF 'inglenookkeep.SenseSees'. -/
def senseSeesCard : Claim7 := { stood := { row := senseSeesRow, standIns := [], harness := (true, "295a6e4438a10f43b516350ee8392a54750a8a75ed0fa612b9c469384f21fa0d"), looks := false }, kinds := [], alts := [], laidByText := true, laidKinds := [.data, .data, .data, .data], laidTests := true, laidLooks := .later }
def SenseSeesCardSaid : Prop := Claim7.holds Tryd.pinned (.plain (OpenSpec.ofChange senseSeesSpec)) senseSeesCard

/-- THE SECOND FORM's CARD OF 'inglenookkeep.SenseRooms'. -/
def senseRoomsUptoCard : Claim7 := { stood := { row := senseRoomsUptoRow, standIns := [], harness := (true, "295a6e4438a10f43b516350ee8392a54750a8a75ed0fa612b9c469384f21fa0d"), looks := false }, kinds := [], alts := [], laidByText := true, laidKinds := [.data, .data, .data, .data], laidTests := true, laidLooks := .later }
def SenseRoomsUptoCardSaid : Prop := Claim7.holds Tryd.pinned (.plain (OpenSpec.upto senseRoomsSpec)) senseRoomsUptoCard

/-- THE SECOND FORM's CARD OF 'inglenookkeep.SenseSees'. -/
def senseSeesUptoCard : Claim7 := { stood := { row := senseSeesUptoRow, standIns := [], harness := (true, "295a6e4438a10f43b516350ee8392a54750a8a75ed0fa612b9c469384f21fa0d"), looks := false }, kinds := [], alts := [], laidByText := true, laidKinds := [.data, .data, .data, .data], laidTests := true, laidLooks := .later }
def SenseSeesUptoCardSaid : Prop := Claim7.holds Tryd.pinned (.plain (OpenSpec.upto senseSeesSpec)) senseSeesUptoCard
end Rows
end Go.Proofs.YtdembcpljjgbkaeDoor
