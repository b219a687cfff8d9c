/-
  DERIVED. GIVEN WITH THE SEED: THE CARDS: each row of YtageoeogofeckaaGreatDoorRows.lean that lists a variable, with what it lists TIED to the program's text (the seventh form; the later family's looks); each row that meets fmt, with fmt's text TOLD by the authors' own Lean function (tested against real Go, not proved from fmt's source: count such statements apart). THE CARD IS WHAT COUNTS. Prove the row's statement (the work); the ties are given (YtageoeogofeckaaGreatDoorTie.lean); close each card by the builder's one call (the guide's Derived/Test/ToyasCard.lean, 'card_holds'). Laid BY PROGRAM, IN A SANDBOX (cutbox-door.mjs). By AI agents, Wed Nov 11 2026. No macro, syntax, notation, axiom, sorry.
-/
import Derived.Test.YtageoeogofeckaaGreatDoorRows
import GoSem.ClaimSeven
namespace Go.Proofs.YtageoeogofeckaaGreatDoor
namespace Rows

/-- THE TIED CARD OF 'dovecotelaw17.SeenPlays'. -/
def seenPlaysCard : Claim7 := { stood := { row := seenPlaysRow, standIns := [], harness := (true, "cdbc904bd11f51a9660d224161ef4f60af504a3f73c662f4aac10d5b4b8b1d1c"), looks := false }, kinds := [], alts := [], laidByText := true, laidKinds := [.data], laidTests := true, laidLooks := .later }
def SeenPlaysCardSaid : Prop := Claim7.holds Tryz.pinned (.plain (OpenSpec.ofChange seenPlaysSpec)) seenPlaysCard

/-- THE SECOND FORM's CARD OF 'dovecotelaw17.SeenPlays'. -/
def seenPlaysUptoCard : Claim7 := { stood := { row := seenPlaysUptoRow, standIns := [], harness := (true, "cdbc904bd11f51a9660d224161ef4f60af504a3f73c662f4aac10d5b4b8b1d1c"), looks := false }, kinds := [], alts := [], laidByText := true, laidKinds := [.data], laidTests := true, laidLooks := .later }
def SeenPlaysUptoCardSaid : Prop := Claim7.holds Tryz.pinned (.plain (OpenSpec.upto seenPlaysSpec)) seenPlaysUptoCard
end Rows
end Go.Proofs.YtageoeogofeckaaGreatDoor
