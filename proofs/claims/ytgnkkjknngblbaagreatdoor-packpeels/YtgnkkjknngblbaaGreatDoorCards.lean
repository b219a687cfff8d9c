/-
  DERIVED. GIVEN WITH THE SEED: THE CARDS: each row of YtgnkkjknngblbaaGreatDoorRows.lean that lists a variable, with what it lists TIED to the program's text (the seventh form; the later family's looks); each row that meets fmt, with fmt's text TOLD by the authors' own Lean function (tested against real Go, not proved from fmt's source: count such statements apart). THE CARD IS WHAT COUNTS. Prove the row's statement (the work); the ties are given (YtgnkkjknngblbaaGreatDoorTie.lean); close each card by the builder's one call (the guide's Derived/Test/ToyasCard.lean, 'card_holds'). Laid BY PROGRAM, IN A SANDBOX (cutbox-door.mjs). By AI agents, Wed Nov 11 2026. No macro, syntax, notation, axiom, sorry.
-/
import Derived.Test.YtgnkkjknngblbaaGreatDoorRows
import GoSem.ClaimSeven
namespace Go.Proofs.YtgnkkjknngblbaaGreatDoor
namespace Rows

/-- THE TIED CARD OF 'dovecotelaw09.PackMakes'. -/
def packMakesCard : Claim7 := { stood := { row := packMakesRow, standIns := [], harness := (true, "18263594281944e6a6c7a40ccd7697e18c5ddfc709936aa6a60d1e2fbe46ba84"), looks := false }, kinds := [], alts := [], laidByText := true, laidKinds := [.data], laidTests := true, laidLooks := .later }
def PackMakesCardSaid : Prop := Claim7.holds Tryz.pinned (.plain (OpenSpec.ofChange packMakesSpec)) packMakesCard

/-- THE TIED CARD OF 'dovecotelaw09.PackPeels'. -/
def packPeelsCard : Claim7 := { stood := { row := packPeelsRow, standIns := [], harness := (true, "18263594281944e6a6c7a40ccd7697e18c5ddfc709936aa6a60d1e2fbe46ba84"), looks := false }, kinds := [], alts := [], laidByText := true, laidKinds := [.data], laidTests := true, laidLooks := .later }
def PackPeelsCardSaid : Prop := Claim7.holds Tryz.pinned (.plain (OpenSpec.ofChange packPeelsSpec)) packPeelsCard

/-- THE TIED CARD OF 'dovecotelaw09.PackWhole'. -/
def packWholeCard : Claim7 := { stood := { row := packWholeRow, standIns := [], harness := (true, "18263594281944e6a6c7a40ccd7697e18c5ddfc709936aa6a60d1e2fbe46ba84"), looks := false }, kinds := [], alts := [], laidByText := true, laidKinds := [.data], laidTests := true, laidLooks := .later }
def PackWholeCardSaid : Prop := Claim7.holds Tryz.pinned (.plain (OpenSpec.ofChange packWholeSpec)) packWholeCard

/-- THE TIED CARD OF 'dovecotelaw09.PackSpoilt'. -/
def packSpoiltCard : Claim7 := { stood := { row := packSpoiltRow, standIns := [], harness := (true, "18263594281944e6a6c7a40ccd7697e18c5ddfc709936aa6a60d1e2fbe46ba84"), looks := false }, kinds := [], alts := [], laidByText := true, laidKinds := [.data], laidTests := true, laidLooks := .later }
def PackSpoiltCardSaid : Prop := Claim7.holds Tryz.pinned (.plain (OpenSpec.ofChange packSpoiltSpec)) packSpoiltCard

/-- THE TIED CARD OF 'dovecotelaw09.PackHeads'. -/
def packHeadsCard : Claim7 := { stood := { row := packHeadsRow, standIns := [], harness := (true, "18263594281944e6a6c7a40ccd7697e18c5ddfc709936aa6a60d1e2fbe46ba84"), looks := false }, kinds := [], alts := [], laidByText := true, laidKinds := [.data], laidTests := true, laidLooks := .later }
def PackHeadsCardSaid : Prop := Claim7.holds Tryz.pinned (.plain (OpenSpec.ofChange packHeadsSpec)) packHeadsCard

/-- THE SECOND FORM's CARD OF 'dovecotelaw09.PackMakes'. -/
def packMakesUptoCard : Claim7 := { stood := { row := packMakesUptoRow, standIns := [], harness := (true, "18263594281944e6a6c7a40ccd7697e18c5ddfc709936aa6a60d1e2fbe46ba84"), looks := false }, kinds := [], alts := [], laidByText := true, laidKinds := [.data], laidTests := true, laidLooks := .later }
def PackMakesUptoCardSaid : Prop := Claim7.holds Tryz.pinned (.plain (OpenSpec.upto packMakesSpec)) packMakesUptoCard

/-- THE SECOND FORM's CARD OF 'dovecotelaw09.PackPeels'. -/
def packPeelsUptoCard : Claim7 := { stood := { row := packPeelsUptoRow, standIns := [], harness := (true, "18263594281944e6a6c7a40ccd7697e18c5ddfc709936aa6a60d1e2fbe46ba84"), looks := false }, kinds := [], alts := [], laidByText := true, laidKinds := [.data], laidTests := true, laidLooks := .later }
def PackPeelsUptoCardSaid : Prop := Claim7.holds Tryz.pinned (.plain (OpenSpec.upto packPeelsSpec)) packPeelsUptoCard

/-- THE SECOND FORM's CARD OF 'dovecotelaw09.PackWhole'. -/
def packWholeUptoCard : Claim7 := { stood := { row := packWholeUptoRow, standIns := [], harness := (true, "18263594281944e6a6c7a40ccd7697e18c5ddfc709936aa6a60d1e2fbe46ba84"), looks := false }, kinds := [], alts := [], laidByText := true, laidKinds := [.data], laidTests := true, laidLooks := .later }
def PackWholeUptoCardSaid : Prop := Claim7.holds Tryz.pinned (.plain (OpenSpec.upto packWholeSpec)) packWholeUptoCard

/-- THE SECOND FORM's CARD OF 'dovecotelaw09.PackSpoilt'. -/
def packSpoiltUptoCard : Claim7 := { stood := { row := packSpoiltUptoRow, standIns := [], harness := (true, "18263594281944e6a6c7a40ccd7697e18c5ddfc709936aa6a60d1e2fbe46ba84"), looks := false }, kinds := [], alts := [], laidByText := true, laidKinds := [.data], laidTests := true, laidLooks := .later }
def PackSpoiltUptoCardSaid : Prop := Claim7.holds Tryz.pinned (.plain (OpenSpec.upto packSpoiltSpec)) packSpoiltUptoCard

/-- THE SECOND FORM's CARD OF 'dovecotelaw09.PackHeads'. -/
def packHeadsUptoCard : Claim7 := { stood := { row := packHeadsUptoRow, standIns := [], harness := (true, "18263594281944e6a6c7a40ccd7697e18c5ddfc709936aa6a60d1e2fbe46ba84"), looks := false }, kinds := [], alts := [], laidByText := true, laidKinds := [.data], laidTests := true, laidLooks := .later }
def PackHeadsUptoCardSaid : Prop := Claim7.holds Tryz.pinned (.plain (OpenSpec.upto packHeadsSpec)) packHeadsUptoCard
end Rows
end Go.Proofs.YtgnkkjknngblbaaGreatDoor
