/-
  DERIVED. GIVEN WITH THE SEED: THE CARDS: each row of YtbkefhfbbhdpcaaDoorRows.lean that lists a variable, with what it lists TIED to the program's text (the seventh form; the later family's looks); each row that meets fmt, with fmt's text TOLD by the authors' own Lean function (tested against real Go, not proved from fmt's source: count such statements apart). THE CARD IS WHAT COUNTS. Prove the row's statement (the work); the ties are given (YtbkefhfbbhdpcaaDoorTie.lean); close each card by the builder's one call (the guide's Derived/Test/ToyasCard.lean, 'card_holds'). Laid BY PROGRAM, IN A SANDBOX (cutbox-door.mjs). By AI agents, Wed Nov 11 2026. No macro, syntax, notation, axiom, sorry.
-/
import Derived.Test.YtbkefhfbbhdpcaaDoorRows
import GoSem.ClaimSeven
namespace Go.Proofs.YtbkefhfbbhdpcaaDoor
namespace Rows

/-- THE TIED CARD OF 'dovecotelaw06.WideTurns'. -/
def wideTurnsCard : Claim7 := { stood := { row := wideTurnsRow, standIns := [], harness := (true, "2551e47230dbcdbe752c351d33f3b3506b42dd503cabfe964c4e85b11acbcdc8"), looks := false }, kinds := [], alts := [], laidByText := true, laidKinds := [.data], laidTests := true, laidLooks := .later }
def WideTurnsCardSaid : Prop := Claim7.holds Tryd.pinned (.plain (OpenSpec.ofChange wideTurnsSpec)) wideTurnsCard

/-- THE TIED CARD OF 'dovecotelaw06.WideWraps'. -/
def wideWrapsCard : Claim7 := { stood := { row := wideWrapsRow, standIns := [], harness := (true, "2551e47230dbcdbe752c351d33f3b3506b42dd503cabfe964c4e85b11acbcdc8"), looks := false }, kinds := [], alts := [], laidByText := true, laidKinds := [.data], laidTests := true, laidLooks := .later }
def WideWrapsCardSaid : Prop := Claim7.holds Tryd.pinned (.plain (OpenSpec.ofChange wideWrapsSpec)) wideWrapsCard

/-- THE TIED CARD OF 'dovecotelaw06.WideUnwraps'. -/
def wideUnwrapsCard : Claim7 := { stood := { row := wideUnwrapsRow, standIns := [], harness := (true, "2551e47230dbcdbe752c351d33f3b3506b42dd503cabfe964c4e85b11acbcdc8"), looks := false }, kinds := [], alts := [], laidByText := true, laidKinds := [.data], laidTests := true, laidLooks := .later }
def WideUnwrapsCardSaid : Prop := Claim7.holds Tryd.pinned (.plain (OpenSpec.ofChange wideUnwrapsSpec)) wideUnwrapsCard

/-- THE TIED CARD OF 'dovecotelaw06.WideBack'. -/
def wideBackCard : Claim7 := { stood := { row := wideBackRow, standIns := [], harness := (true, "2551e47230dbcdbe752c351d33f3b3506b42dd503cabfe964c4e85b11acbcdc8"), looks := false }, kinds := [], alts := [], laidByText := true, laidKinds := [.data], laidTests := true, laidLooks := .later }
def WideBackCardSaid : Prop := Claim7.holds Tryd.pinned (.plain (OpenSpec.ofChange wideBackSpec)) wideBackCard

/-- THE TIED CARD OF 'dovecotelaw06.WideText'. -/
def wideTextCard : Claim7 := { stood := { row := wideTextRow, standIns := [], harness := (true, "2551e47230dbcdbe752c351d33f3b3506b42dd503cabfe964c4e85b11acbcdc8"), looks := false }, kinds := [], alts := [], laidByText := true, laidKinds := [.data], laidTests := true, laidLooks := .later }
def WideTextCardSaid : Prop := Claim7.holds Tryd.pinned (.plain (OpenSpec.ofChange wideTextSpec)) wideTextCard

/-- THE TIED CARD OF 'dovecotelaw06.WideLeft'. -/
def wideLeftCard : Claim7 := { stood := { row := wideLeftRow, standIns := [], harness := (true, "2551e47230dbcdbe752c351d33f3b3506b42dd503cabfe964c4e85b11acbcdc8"), looks := false }, kinds := [], alts := [], laidByText := true, laidKinds := [.data], laidTests := true, laidLooks := .later }
def WideLeftCardSaid : Prop := Claim7.holds Tryd.pinned (.plain (OpenSpec.ofChange wideLeftSpec)) wideLeftCard

/-- THE SECOND FORM's CARD OF 'dovecotelaw06.WideTurns'. -/
def wideTurnsUptoCard : Claim7 := { stood := { row := wideTurnsUptoRow, standIns := [], harness := (true, "2551e47230dbcdbe752c351d33f3b3506b42dd503cabfe964c4e85b11acbcdc8"), looks := false }, kinds := [], alts := [], laidByText := true, laidKinds := [.data], laidTests := true, laidLooks := .later }
def WideTurnsUptoCardSaid : Prop := Claim7.holds Tryd.pinned (.plain (OpenSpec.upto wideTurnsSpec)) wideTurnsUptoCard

/-- THE SECOND FORM's CARD OF 'dovecotelaw06.WideWraps'. -/
def wideWrapsUptoCard : Claim7 := { stood := { row := wideWrapsUptoRow, standIns := [], harness := (true, "2551e47230dbcdbe752c351d33f3b3506b42dd503cabfe964c4e85b11acbcdc8"), looks := false }, kinds := [], alts := [], laidByText := true, laidKinds := [.data], laidTests := true, laidLooks := .later }
def WideWrapsUptoCardSaid : Prop := Claim7.holds Tryd.pinned (.plain (OpenSpec.upto wideWrapsSpec)) wideWrapsUptoCard

/-- THE SECOND FORM's CARD OF 'dovecotelaw06.WideUnwraps'. -/
def wideUnwrapsUptoCard : Claim7 := { stood := { row := wideUnwrapsUptoRow, standIns := [], harness := (true, "2551e47230dbcdbe752c351d33f3b3506b42dd503cabfe964c4e85b11acbcdc8"), looks := false }, kinds := [], alts := [], laidByText := true, laidKinds := [.data], laidTests := true, laidLooks := .later }
def WideUnwrapsUptoCardSaid : Prop := Claim7.holds Tryd.pinned (.plain (OpenSpec.upto wideUnwrapsSpec)) wideUnwrapsUptoCard

/-- THE SECOND FORM's CARD OF 'dovecotelaw06.WideBack'. -/
def wideBackUptoCard : Claim7 := { stood := { row := wideBackUptoRow, standIns := [], harness := (true, "2551e47230dbcdbe752c351d33f3b3506b42dd503cabfe964c4e85b11acbcdc8"), looks := false }, kinds := [], alts := [], laidByText := true, laidKinds := [.data], laidTests := true, laidLooks := .later }
def WideBackUptoCardSaid : Prop := Claim7.holds Tryd.pinned (.plain (OpenSpec.upto wideBackSpec)) wideBackUptoCard

/-- THE SECOND FORM's CARD OF 'dovecotelaw06.WideText'. -/
def wideTextUptoCard : Claim7 := { stood := { row := wideTextUptoRow, standIns := [], harness := (true, "2551e47230dbcdbe752c351d33f3b3506b42dd503cabfe964c4e85b11acbcdc8"), looks := false }, kinds := [], alts := [], laidByText := true, laidKinds := [.data], laidTests := true, laidLooks := .later }
def WideTextUptoCardSaid : Prop := Claim7.holds Tryd.pinned (.plain (OpenSpec.upto wideTextSpec)) wideTextUptoCard

/-- THE SECOND FORM's CARD OF 'dovecotelaw06.WideLeft'. -/
def wideLeftUptoCard : Claim7 := { stood := { row := wideLeftUptoRow, standIns := [], harness := (true, "2551e47230dbcdbe752c351d33f3b3506b42dd503cabfe964c4e85b11acbcdc8"), looks := false }, kinds := [], alts := [], laidByText := true, laidKinds := [.data], laidTests := true, laidLooks := .later }
def WideLeftUptoCardSaid : Prop := Claim7.holds Tryd.pinned (.plain (OpenSpec.upto wideLeftSpec)) wideLeftUptoCard
end Rows
end Go.Proofs.YtbkefhfbbhdpcaaDoor
