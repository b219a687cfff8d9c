/-
  DERIVED. GIVEN WITH THE SEED: THE CARDS: each row of YtageoeogofeckaaDoorRows.lean that lists a variable, with what it lists TIED to the program's text (the seventh form; the later family's looks); each row that meets fmt, with fmt's text TOLD by the authors' own Lean function (tested against real Go, not proved from fmt's source: count such statements apart). THE CARD IS WHAT COUNTS. Prove the row's statement (the work); the ties are given (YtageoeogofeckaaDoorTie.lean); close each card by the builder's one call (the guide's Derived/Test/ToyasCard.lean, 'card_holds'). Laid BY PROGRAM, IN A SANDBOX (cutbox-door.mjs). By AI agents, Wed Nov 11 2026. No macro, syntax, notation, axiom, sorry.
-/
import Derived.Test.YtageoeogofeckaaDoorRows
import GoSem.ClaimSeven
namespace Go.Proofs.YtageoeogofeckaaDoor
namespace Rows

/-- THE TIED CARD OF 'dovecotelaw17.SeenEpochs'. -/
def seenEpochsCard : Claim7 := { stood := { row := seenEpochsRow, standIns := [], harness := (true, "688821358e82d5830b0f30e04b0c2a0215c7648b1269bfdddb5080fd6dd31f5e"), looks := false }, kinds := [], alts := [], laidByText := true, laidKinds := [.data], laidTests := true, laidLooks := .later }
def SeenEpochsCardSaid : Prop := Claim7.holds Tryd.pinned (.plain (OpenSpec.ofChange seenEpochsSpec)) seenEpochsCard

/-- THE TIED CARD OF 'dovecotelaw17.SeenFull'. -/
def seenFullCard : Claim7 := { stood := { row := seenFullRow, standIns := [], harness := (true, "688821358e82d5830b0f30e04b0c2a0215c7648b1269bfdddb5080fd6dd31f5e"), looks := false }, kinds := [], alts := [], laidByText := true, laidKinds := [.data], laidTests := true, laidLooks := .later }
def SeenFullCardSaid : Prop := Claim7.holds Tryd.pinned (.plain (OpenSpec.ofChange seenFullSpec)) seenFullCard

/-- THE SECOND FORM's CARD OF 'dovecotelaw17.SeenEpochs'. -/
def seenEpochsUptoCard : Claim7 := { stood := { row := seenEpochsUptoRow, standIns := [], harness := (true, "688821358e82d5830b0f30e04b0c2a0215c7648b1269bfdddb5080fd6dd31f5e"), looks := false }, kinds := [], alts := [], laidByText := true, laidKinds := [.data], laidTests := true, laidLooks := .later }
def SeenEpochsUptoCardSaid : Prop := Claim7.holds Tryd.pinned (.plain (OpenSpec.upto seenEpochsSpec)) seenEpochsUptoCard

/-- THE SECOND FORM's CARD OF 'dovecotelaw17.SeenFull'. -/
def seenFullUptoCard : Claim7 := { stood := { row := seenFullUptoRow, standIns := [], harness := (true, "688821358e82d5830b0f30e04b0c2a0215c7648b1269bfdddb5080fd6dd31f5e"), looks := false }, kinds := [], alts := [], laidByText := true, laidKinds := [.data], laidTests := true, laidLooks := .later }
def SeenFullUptoCardSaid : Prop := Claim7.holds Tryd.pinned (.plain (OpenSpec.upto seenFullSpec)) seenFullUptoCard
end Rows
end Go.Proofs.YtageoeogofeckaaDoor
