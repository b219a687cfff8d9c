/-
  DERIVED. GIVEN WITH THE SEED: THE CARDS: each row of YtdebfelgaiofeabDoorRows.lean that lists a variable, with what it lists TIED to the program's text (the seventh form; the later family's looks); each row that meets fmt, with fmt's text TOLD by the authors' own Lean function (tested against real Go, not proved from fmt's source: count such statements apart). THE CARD IS WHAT COUNTS. Prove the row's statement (the work); the ties are given (YtdebfelgaiofeabDoorTie.lean); close each card by the builder's one call (the guide's Derived/Test/ToyasCard.lean, 'card_holds'). Laid BY PROGRAM, IN A SANDBOX (cutbox-door.mjs). By AI agents, Wed Nov 11 2026. No macro, syntax, notation, axiom, sorry.
-/
import Derived.Test.YtdebfelgaiofeabDoorRows
import GoSem.ClaimSeven
namespace Go.Proofs.YtdebfelgaiofeabDoor
namespace Rows

/-- THE TIED CARD OF 'dovecotelaw03.HashSums'. -/
def hashSumsCard : Claim7 := { stood := { row := hashSumsRow, standIns := [], harness := (true, "6371b30f9c4b1492a39797bbcc1bde7f758e2d13e9aa005c4d6d58e7154c38b0"), looks := false }, kinds := [], alts := [], laidByText := true, laidKinds := [.data], laidTests := true, laidLooks := .later }
def HashSumsCardSaid : Prop := Claim7.holds Tryd.pinned (.plain (OpenSpec.ofChange hashSumsSpec)) hashSumsCard

/-- THE TIED CARD OF 'dovecotelaw03.HashPieces'. -/
def hashPiecesCard : Claim7 := { stood := { row := hashPiecesRow, standIns := [], harness := (true, "6371b30f9c4b1492a39797bbcc1bde7f758e2d13e9aa005c4d6d58e7154c38b0"), looks := false }, kinds := [], alts := [], laidByText := true, laidKinds := [.data], laidTests := true, laidLooks := .later }
def HashPiecesCardSaid : Prop := Claim7.holds Tryd.pinned (.plain (OpenSpec.ofChange hashPiecesSpec)) hashPiecesCard

/-- THE TIED CARD OF 'dovecotelaw03.HashHex'. -/
def hashHexCard : Claim7 := { stood := { row := hashHexRow, standIns := [], harness := (true, "6371b30f9c4b1492a39797bbcc1bde7f758e2d13e9aa005c4d6d58e7154c38b0"), looks := false }, kinds := [], alts := [], laidByText := true, laidKinds := [.data], laidTests := true, laidLooks := .later }
def HashHexCardSaid : Prop := Claim7.holds Tryd.pinned (.plain (OpenSpec.ofChange hashHexSpec)) hashHexCard

/-- THE TIED CARD OF 'dovecotelaw03.HashCuts'. -/
def hashCutsCard : Claim7 := { stood := { row := hashCutsRow, standIns := [], harness := (true, "6371b30f9c4b1492a39797bbcc1bde7f758e2d13e9aa005c4d6d58e7154c38b0"), looks := false }, kinds := [], alts := [], laidByText := true, laidKinds := [.data], laidTests := true, laidLooks := .later }
def HashCutsCardSaid : Prop := Claim7.holds Tryd.pinned (.plain (OpenSpec.ofChange hashCutsSpec)) hashCutsCard

/-- THE TIED CARD OF 'dovecotelaw03.HashBound'. -/
def hashBoundCard : Claim7 := { stood := { row := hashBoundRow, standIns := [], harness := (true, "6371b30f9c4b1492a39797bbcc1bde7f758e2d13e9aa005c4d6d58e7154c38b0"), looks := false }, kinds := [], alts := [], laidByText := true, laidKinds := [.data], laidTests := true, laidLooks := .later }
def HashBoundCardSaid : Prop := Claim7.holds Tryd.pinned (.plain (OpenSpec.ofChange hashBoundSpec)) hashBoundCard

/-- THE TIED CARD OF 'dovecotelaw03.HashShort'. -/
def hashShortCard : Claim7 := { stood := { row := hashShortRow, standIns := [], harness := (true, "6371b30f9c4b1492a39797bbcc1bde7f758e2d13e9aa005c4d6d58e7154c38b0"), looks := false }, kinds := [], alts := [], laidByText := true, laidKinds := [.data], laidTests := true, laidLooks := .later }
def HashShortCardSaid : Prop := Claim7.holds Tryd.pinned (.plain (OpenSpec.ofChange hashShortSpec)) hashShortCard

/-- THE SECOND FORM's CARD OF 'dovecotelaw03.HashSums'. -/
def hashSumsUptoCard : Claim7 := { stood := { row := hashSumsUptoRow, standIns := [], harness := (true, "6371b30f9c4b1492a39797bbcc1bde7f758e2d13e9aa005c4d6d58e7154c38b0"), looks := false }, kinds := [], alts := [], laidByText := true, laidKinds := [.data], laidTests := true, laidLooks := .later }
def HashSumsUptoCardSaid : Prop := Claim7.holds Tryd.pinned (.plain (OpenSpec.upto hashSumsSpec)) hashSumsUptoCard

/-- THE SECOND FORM's CARD OF 'dovecotelaw03.HashPieces'. -/
def hashPiecesUptoCard : Claim7 := { stood := { row := hashPiecesUptoRow, standIns := [], harness := (true, "6371b30f9c4b1492a39797bbcc1bde7f758e2d13e9aa005c4d6d58e7154c38b0"), looks := false }, kinds := [], alts := [], laidByText := true, laidKinds := [.data], laidTests := true, laidLooks := .later }
def HashPiecesUptoCardSaid : Prop := Claim7.holds Tryd.pinned (.plain (OpenSpec.upto hashPiecesSpec)) hashPiecesUptoCard

/-- THE SECOND FORM's CARD OF 'dovecotelaw03.HashHex'. -/
def hashHexUptoCard : Claim7 := { stood := { row := hashHexUptoRow, standIns := [], harness := (true, "6371b30f9c4b1492a39797bbcc1bde7f758e2d13e9aa005c4d6d58e7154c38b0"), looks := false }, kinds := [], alts := [], laidByText := true, laidKinds := [.data], laidTests := true, laidLooks := .later }
def HashHexUptoCardSaid : Prop := Claim7.holds Tryd.pinned (.plain (OpenSpec.upto hashHexSpec)) hashHexUptoCard

/-- THE SECOND FORM's CARD OF 'dovecotelaw03.HashCuts'. -/
def hashCutsUptoCard : Claim7 := { stood := { row := hashCutsUptoRow, standIns := [], harness := (true, "6371b30f9c4b1492a39797bbcc1bde7f758e2d13e9aa005c4d6d58e7154c38b0"), looks := false }, kinds := [], alts := [], laidByText := true, laidKinds := [.data], laidTests := true, laidLooks := .later }
def HashCutsUptoCardSaid : Prop := Claim7.holds Tryd.pinned (.plain (OpenSpec.upto hashCutsSpec)) hashCutsUptoCard

/-- THE SECOND FORM's CARD OF 'dovecotelaw03.HashBound'. -/
def hashBoundUptoCard : Claim7 := { stood := { row := hashBoundUptoRow, standIns := [], harness := (true, "6371b30f9c4b1492a39797bbcc1bde7f758e2d13e9aa005c4d6d58e7154c38b0"), looks := false }, kinds := [], alts := [], laidByText := true, laidKinds := [.data], laidTests := true, laidLooks := .later }
def HashBoundUptoCardSaid : Prop := Claim7.holds Tryd.pinned (.plain (OpenSpec.upto hashBoundSpec)) hashBoundUptoCard

/-- THE SECOND FORM's CARD OF 'dovecotelaw03.HashShort'. -/
def hashShortUptoCard : Claim7 := { stood := { row := hashShortUptoRow, standIns := [], harness := (true, "6371b30f9c4b1492a39797bbcc1bde7f758e2d13e9aa005c4d6d58e7154c38b0"), looks := false }, kinds := [], alts := [], laidByText := true, laidKinds := [.data], laidTests := true, laidLooks := .later }
def HashShortUptoCardSaid : Prop := Claim7.holds Tryd.pinned (.plain (OpenSpec.upto hashShortSpec)) hashShortUptoCard
end Rows
end Go.Proofs.YtdebfelgaiofeabDoor
