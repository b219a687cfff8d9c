/-
  DERIVED. GIVEN WITH THE SEED: THE CARDS: each row of YtdcimnmebgkmjaaGreatDoorRows.lean that lists a variable, with what it lists TIED to the program's text (the seventh form; the later family's looks); each row that meets fmt, with fmt's text TOLD by the authors' own Lean function (tested against real Go, not proved from fmt's source: count such statements apart). THE CARD IS WHAT COUNTS. Prove the row's statement (the work); the ties are given (YtdcimnmebgkmjaaGreatDoorTie.lean); close each card by the builder's one call (the guide's Derived/Test/ToyasCard.lean, 'card_holds'). Laid BY PROGRAM, IN A SANDBOX (cutbox-door.mjs). By AI agents, Wed Nov 11 2026. No macro, syntax, notation, axiom, sorry.
-/
import Derived.Test.YtdcimnmebgkmjaaGreatDoorRows
import GoSem.ClaimSeven
namespace Go.Proofs.YtdcimnmebgkmjaaGreatDoor
namespace Rows

/-- THE TIED CARD OF 'dovecotelaw16.LogPlays'. -/
def logPlaysCard : Claim7 := { stood := { row := logPlaysRow, standIns := [], harness := (true, "6795cc1d0e4eec98a809bfe7a2c8d2f6d527fbe1307d5d6b378c85a070b850b4"), looks := false }, kinds := [], alts := [], laidByText := true, laidKinds := [.data], laidTests := true, laidLooks := .later }
def LogPlaysCardSaid : Prop := Claim7.holds Tryz.pinned (.plain (OpenSpec.ofChange logPlaysSpec)) logPlaysCard

/-- THE TIED CARD OF 'dovecotelaw17.SeenPlays'. -/
def seenPlaysCard : Claim7 := { stood := { row := seenPlaysRow, standIns := [], harness := (true, "6795cc1d0e4eec98a809bfe7a2c8d2f6d527fbe1307d5d6b378c85a070b850b4"), looks := false }, kinds := [], alts := [], laidByText := true, laidKinds := [.data], laidTests := true, laidLooks := .later }
def SeenPlaysCardSaid : Prop := Claim7.holds Tryz.pinned (.plain (OpenSpec.ofChange seenPlaysSpec)) seenPlaysCard

/-- THE SECOND FORM's CARD OF 'dovecotelaw16.LogPlays'. -/
def logPlaysUptoCard : Claim7 := { stood := { row := logPlaysUptoRow, standIns := [], harness := (true, "6795cc1d0e4eec98a809bfe7a2c8d2f6d527fbe1307d5d6b378c85a070b850b4"), looks := false }, kinds := [], alts := [], laidByText := true, laidKinds := [.data], laidTests := true, laidLooks := .later }
def LogPlaysUptoCardSaid : Prop := Claim7.holds Tryz.pinned (.plain (OpenSpec.upto logPlaysSpec)) logPlaysUptoCard

/-- THE SECOND FORM's CARD OF 'dovecotelaw17.SeenPlays'. -/
def seenPlaysUptoCard : Claim7 := { stood := { row := seenPlaysUptoRow, standIns := [], harness := (true, "6795cc1d0e4eec98a809bfe7a2c8d2f6d527fbe1307d5d6b378c85a070b850b4"), looks := false }, kinds := [], alts := [], laidByText := true, laidKinds := [.data], laidTests := true, laidLooks := .later }
def SeenPlaysUptoCardSaid : Prop := Claim7.holds Tryz.pinned (.plain (OpenSpec.upto seenPlaysSpec)) seenPlaysUptoCard
end Rows
end Go.Proofs.YtdcimnmebgkmjaaGreatDoor
