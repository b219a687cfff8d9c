/-
  DERIVED. GIVEN WITH THE SEED: THE CARDS: each row of YtjpaodepnacimaaGreatDoorRows.lean that lists a variable, with what it lists TIED to the program's text (the seventh form; the later family's looks); each row that meets fmt, with fmt's text TOLD by the authors' own Lean function (tested against real Go, not proved from fmt's source: count such statements apart). THE CARD IS WHAT COUNTS. Prove the row's statement (the work); the ties are given (YtjpaodepnacimaaGreatDoorTie.lean); close each card by the builder's one call (the guide's Derived/Test/ToyasCard.lean, 'card_holds'). Laid BY PROGRAM, IN A SANDBOX (cutbox-door.mjs). By AI agents, Wed Nov 11 2026. No macro, syntax, notation, axiom, sorry.
-/
import Derived.Test.YtjpaodepnacimaaGreatDoorRows
import GoSem.ClaimSeven
namespace Go.Proofs.YtjpaodepnacimaaGreatDoor
namespace Rows

/-- THE TIED CARD OF 'dovecotelaw18.BoxesPlay'. -/
def boxesPlayCard : Claim7 := { stood := { row := boxesPlayRow, standIns := [], harness := (true, "5974768b3f40e35ff98eb08f7648982a19a34495fb8f8f98a1f99c54b555cda1"), looks := false }, kinds := [], alts := [], laidByText := true, laidKinds := [.data, .data, .pinned], laidTests := true, laidLooks := .later }
def BoxesPlayCardSaid : Prop := Claim7.holds Tryz.pinned (.plain (OpenSpec.ofChange boxesPlaySpec)) boxesPlayCard

/-- THE TIED CARD OF 'dovecotelaw18.BoxesOrder'. -/
def boxesOrderCard : Claim7 := { stood := { row := boxesOrderRow, standIns := [], harness := (true, "5974768b3f40e35ff98eb08f7648982a19a34495fb8f8f98a1f99c54b555cda1"), looks := false }, kinds := [], alts := [], laidByText := true, laidKinds := [.data, .data, .pinned], laidTests := true, laidLooks := .later }
def BoxesOrderCardSaid : Prop := Claim7.holds Tryz.pinned (.plain (OpenSpec.ofChange boxesOrderSpec)) boxesOrderCard

/-- THE SECOND FORM's CARD OF 'dovecotelaw18.BoxesPlay'. -/
def boxesPlayUptoCard : Claim7 := { stood := { row := boxesPlayUptoRow, standIns := [], harness := (true, "5974768b3f40e35ff98eb08f7648982a19a34495fb8f8f98a1f99c54b555cda1"), looks := false }, kinds := [], alts := [], laidByText := true, laidKinds := [.data, .data, .pinned], laidTests := true, laidLooks := .later }
def BoxesPlayUptoCardSaid : Prop := Claim7.holds Tryz.pinned (.plain (OpenSpec.upto boxesPlaySpec)) boxesPlayUptoCard

/-- THE SECOND FORM's CARD OF 'dovecotelaw18.BoxesOrder'. -/
def boxesOrderUptoCard : Claim7 := { stood := { row := boxesOrderUptoRow, standIns := [], harness := (true, "5974768b3f40e35ff98eb08f7648982a19a34495fb8f8f98a1f99c54b555cda1"), looks := false }, kinds := [], alts := [], laidByText := true, laidKinds := [.data, .data, .pinned], laidTests := true, laidLooks := .later }
def BoxesOrderUptoCardSaid : Prop := Claim7.holds Tryz.pinned (.plain (OpenSpec.upto boxesOrderSpec)) boxesOrderUptoCard
end Rows
end Go.Proofs.YtjpaodepnacimaaGreatDoor
