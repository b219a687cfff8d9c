/-
  DERIVED. GIVEN WITH THE SEED: THE CARDS: each row of YtdebfelgaiofeadDoorRows.lean that lists a variable, with what it lists TIED to the program's text (the seventh form; the later family's looks); each row that meets fmt, with fmt's text TOLD by the authors' own Lean function (tested against real Go, not proved from fmt's source: count such statements apart). THE CARD IS WHAT COUNTS. Prove the row's statement (the work); the ties are given (YtdebfelgaiofeadDoorTie.lean); close each card by the builder's one call (the guide's Derived/Test/ToyasCard.lean, 'card_holds'). Laid BY PROGRAM, IN A SANDBOX (cutbox-door.mjs). By AI agents, Wed Nov 11 2026. No macro, syntax, notation, axiom, sorry.
-/
import Derived.Test.YtdebfelgaiofeadDoorRows
import GoSem.ClaimSeven
namespace Go.Proofs.YtdebfelgaiofeadDoor
namespace Rows

/-- THE TIED CARD OF 'dovecotelaw04.KeyedCuts'. -/
def keyedCutsCard : Claim7 := { stood := { row := keyedCutsRow, standIns := [], harness := (true, "dff02b8751d2e9765e6884d68a075d46ba67ed3a965105a417ab230529bb9edd"), looks := false }, kinds := [], alts := [], laidByText := true, laidKinds := [.data], laidTests := true, laidLooks := .later }
def KeyedCutsCardSaid : Prop := Claim7.holds Tryd.pinned (.plain (OpenSpec.ofChange keyedCutsSpec)) keyedCutsCard

/-- THE TIED CARD OF 'dovecotelaw04.KeyedBlocks'. -/
def keyedBlocksCard : Claim7 := { stood := { row := keyedBlocksRow, standIns := [], harness := (true, "dff02b8751d2e9765e6884d68a075d46ba67ed3a965105a417ab230529bb9edd"), looks := false }, kinds := [], alts := [], laidByText := true, laidKinds := [.data], laidTests := true, laidLooks := .later }
def KeyedBlocksCardSaid : Prop := Claim7.holds Tryd.pinned (.plain (OpenSpec.ofChange keyedBlocksSpec)) keyedBlocksCard

/-- THE SECOND FORM's CARD OF 'dovecotelaw04.KeyedCuts'. -/
def keyedCutsUptoCard : Claim7 := { stood := { row := keyedCutsUptoRow, standIns := [], harness := (true, "dff02b8751d2e9765e6884d68a075d46ba67ed3a965105a417ab230529bb9edd"), looks := false }, kinds := [], alts := [], laidByText := true, laidKinds := [.data], laidTests := true, laidLooks := .later }
def KeyedCutsUptoCardSaid : Prop := Claim7.holds Tryd.pinned (.plain (OpenSpec.upto keyedCutsSpec)) keyedCutsUptoCard

/-- THE SECOND FORM's CARD OF 'dovecotelaw04.KeyedBlocks'. -/
def keyedBlocksUptoCard : Claim7 := { stood := { row := keyedBlocksUptoRow, standIns := [], harness := (true, "dff02b8751d2e9765e6884d68a075d46ba67ed3a965105a417ab230529bb9edd"), looks := false }, kinds := [], alts := [], laidByText := true, laidKinds := [.data], laidTests := true, laidLooks := .later }
def KeyedBlocksUptoCardSaid : Prop := Claim7.holds Tryd.pinned (.plain (OpenSpec.upto keyedBlocksSpec)) keyedBlocksUptoCard
end Rows
end Go.Proofs.YtdebfelgaiofeadDoor
