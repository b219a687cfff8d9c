/-
  DERIVED. GIVEN WITH THE SEED: THE CARDS: each row of YtbkefhfbbhdpcabDoorRows.lean that lists a variable, with what it lists TIED to the program's text (the seventh form; the later family's looks); each row that meets fmt, with fmt's text TOLD by the authors' own Lean function (tested against real Go, not proved from fmt's source: count such statements apart). THE CARD IS WHAT COUNTS. Prove the row's statement (the work); the ties are given (YtbkefhfbbhdpcabDoorTie.lean); close each card by the builder's one call (the guide's Derived/Test/ToyasCard.lean, 'card_holds'). Laid BY PROGRAM, IN A SANDBOX (cutbox-door.mjs). By AI agents, Wed Nov 11 2026. No macro, syntax, notation, axiom, sorry.
-/
import Derived.Test.YtbkefhfbbhdpcabDoorRows
import GoSem.ClaimSeven
namespace Go.Proofs.YtbkefhfbbhdpcabDoor
namespace Rows

/-- THE TIED CARD OF 'dovecotelaw06.WidePlain'. -/
def widePlainCard : Claim7 := { stood := { row := widePlainRow, standIns := [], harness := (true, "5724c2679dae6ead1cf28b3a1942d2e12dc5bc3c8ef7005d541c568835a99c16"), looks := false }, kinds := [], alts := [], laidByText := true, laidKinds := [.data], laidTests := true, laidLooks := .later }
def WidePlainCardSaid : Prop := Claim7.holds Tryd.pinned (.plain (OpenSpec.ofChange widePlainSpec)) widePlainCard

/-- THE SECOND FORM's CARD OF 'dovecotelaw06.WidePlain'. -/
def widePlainUptoCard : Claim7 := { stood := { row := widePlainUptoRow, standIns := [], harness := (true, "5724c2679dae6ead1cf28b3a1942d2e12dc5bc3c8ef7005d541c568835a99c16"), looks := false }, kinds := [], alts := [], laidByText := true, laidKinds := [.data], laidTests := true, laidLooks := .later }
def WidePlainUptoCardSaid : Prop := Claim7.holds Tryd.pinned (.plain (OpenSpec.upto widePlainSpec)) widePlainUptoCard
end Rows
end Go.Proofs.YtbkefhfbbhdpcabDoor
