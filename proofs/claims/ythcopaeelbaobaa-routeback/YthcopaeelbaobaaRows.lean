/-
  No cell of these rows narrows 'for every input' (looked for: loops, veiled, ifaces, maps, wideKeys, modest, calm, conditions, laid).
  DERIVED. THE GIVEN ROWS OF THIS SEAT. 6 by the template 'for every input the law returns true; each argument reads behind the call as it read before'; 0 by the template 'total and deterministic' (their statements: YthcopaeelbaobaaTotals.lean).
  GIVEN WITH THE SEED: the statements are not yours to turn. If you find one false, say at which input.
  Laid BY PROGRAM, IN A SANDBOX (cutbox-rows.mjs): the forced cells as the released guide's own fill.sh prints them over the translation cb90a4f82e1c846d… (all of the seat's roots in one cut). By AI agents, Wed Nov 11 2026. No macro, syntax, notation, axiom, sorry.
-/
import Derived.Test.YthcopaeelbaobaaChecked
import GoSem.Claim
import GoSem.ClaimJoined
import GoSem.ClaimMapViews
import Derived.JoinedTies
import Derived.KernelRfl
namespace Go.Proofs.Ythcopaeelbaobaa
/- THE CELL 'sum', in the pinned program and in every row, IS THE sha256 OF THE DUMP (.gsa) THAT YthcopaeelbaobaaProg.lean LOADS. Nothing in Lean hashes anything: it is a label: what it is worth is what the hold of that sum in a sandbox is worth. -/
noncomputable def Try.pinned : Pinned := { name := "ythcopaeelbaobaa", sum := "cb90a4f82e1c846dba81f679ab8c599da91bc9ddffc56038c87ebda1033a3d26", checked := Try.checked }
namespace Rows
def none {H : Type} : Left H := { results := [], args := [] }

/-- 'dovecotelaw07.RouteBytes': WHATEVER THE INPUT: true; the input reads as it did. -/
def routeBytesSpec : ChangeSpec := { name := "routeBytes", fn := fun _ => fun
  | [d] => { results := [.lit (.bool true)], args := [d] }
  | _ => none }
def routeBytesRow : OpenClaim := { program := "ythcopaeelbaobaa", sum := "cb90a4f82e1c846dba81f679ab8c599da91bc9ddffc56038c87ebda1033a3d26", func := "dovecote/dovecotelaw07.RouteBytes", spec := "routeBytes", apart := false }
def RouteBytesSaid : Prop := routeBytesRow.holds Try.pinned (OpenSpec.ofChange routeBytesSpec)

/-- ITS FALSE NEIGHBOUR: 'it returns false'. Refute it at one input. -/
def routeBytesWrong : ChangeSpec := { name := "routeBytes", fn := fun _ => fun
  | [d] => { results := [.lit (.bool false)], args := [d] }
  | _ => none }
def RouteBytesWrongFalsely : Prop := routeBytesRow.holds Try.pinned (OpenSpec.ofChange routeBytesWrong)

/-- 'dovecotelaw07.RouteReads': WHATEVER THE INPUT: true; the input reads as it did. -/
def routeReadsSpec : ChangeSpec := { name := "routeReads", fn := fun _ => fun
  | [d] => { results := [.lit (.bool true)], args := [d] }
  | _ => none }
def routeReadsRow : OpenClaim := { program := "ythcopaeelbaobaa", sum := "cb90a4f82e1c846dba81f679ab8c599da91bc9ddffc56038c87ebda1033a3d26", func := "dovecote/dovecotelaw07.RouteReads", spec := "routeReads", apart := false }
def RouteReadsSaid : Prop := routeReadsRow.holds Try.pinned (OpenSpec.ofChange routeReadsSpec)

/-- ITS FALSE NEIGHBOUR: 'it returns false'. Refute it at one input. -/
def routeReadsWrong : ChangeSpec := { name := "routeReads", fn := fun _ => fun
  | [d] => { results := [.lit (.bool false)], args := [d] }
  | _ => none }
def RouteReadsWrongFalsely : Prop := routeReadsRow.holds Try.pinned (OpenSpec.ofChange routeReadsWrong)

/-- 'dovecotelaw07.RoutePaths': WHATEVER THE INPUT: true; the input reads as it did. -/
def routePathsSpec : ChangeSpec := { name := "routePaths", fn := fun _ => fun
  | [d] => { results := [.lit (.bool true)], args := [d] }
  | _ => none }
def routePathsRow : OpenClaim := { program := "ythcopaeelbaobaa", sum := "cb90a4f82e1c846dba81f679ab8c599da91bc9ddffc56038c87ebda1033a3d26", func := "dovecote/dovecotelaw07.RoutePaths", spec := "routePaths", apart := false }
def RoutePathsSaid : Prop := routePathsRow.holds Try.pinned (OpenSpec.ofChange routePathsSpec)

/-- ITS FALSE NEIGHBOUR: 'it returns false'. Refute it at one input. -/
def routePathsWrong : ChangeSpec := { name := "routePaths", fn := fun _ => fun
  | [d] => { results := [.lit (.bool false)], args := [d] }
  | _ => none }
def RoutePathsWrongFalsely : Prop := routePathsRow.holds Try.pinned (OpenSpec.ofChange routePathsWrong)

/-- 'dovecotelaw07.RouteBack': WHATEVER THE INPUT: true; the input reads as it did. -/
def routeBackSpec : ChangeSpec := { name := "routeBack", fn := fun _ => fun
  | [d1, d2] => { results := [.lit (.bool true)], args := [d1, d2] }
  | _ => none }
def routeBackRow : OpenClaim := { program := "ythcopaeelbaobaa", sum := "cb90a4f82e1c846dba81f679ab8c599da91bc9ddffc56038c87ebda1033a3d26", func := "dovecote/dovecotelaw07.RouteBack", spec := "routeBack", apart := false }
def RouteBackSaid : Prop := routeBackRow.holds Try.pinned (OpenSpec.ofChange routeBackSpec)

/-- ITS FALSE NEIGHBOUR: 'it returns false'. Refute it at one input. -/
def routeBackWrong : ChangeSpec := { name := "routeBack", fn := fun _ => fun
  | [d1, d2] => { results := [.lit (.bool false)], args := [d1, d2] }
  | _ => none }
def RouteBackWrongFalsely : Prop := routeBackRow.holds Try.pinned (OpenSpec.ofChange routeBackWrong)

/-- 'dovecotelaw07.RouteGrows': WHATEVER THE INPUT: true; the input reads as it did. -/
def routeGrowsSpec : ChangeSpec := { name := "routeGrows", fn := fun _ => fun
  | [d1, d2] => { results := [.lit (.bool true)], args := [d1, d2] }
  | _ => none }
def routeGrowsRow : OpenClaim := { program := "ythcopaeelbaobaa", sum := "cb90a4f82e1c846dba81f679ab8c599da91bc9ddffc56038c87ebda1033a3d26", func := "dovecote/dovecotelaw07.RouteGrows", spec := "routeGrows", apart := false }
def RouteGrowsSaid : Prop := routeGrowsRow.holds Try.pinned (OpenSpec.ofChange routeGrowsSpec)

/-- ITS FALSE NEIGHBOUR: 'it returns false'. Refute it at one input. -/
def routeGrowsWrong : ChangeSpec := { name := "routeGrows", fn := fun _ => fun
  | [d1, d2] => { results := [.lit (.bool false)], args := [d1, d2] }
  | _ => none }
def RouteGrowsWrongFalsely : Prop := routeGrowsRow.holds Try.pinned (OpenSpec.ofChange routeGrowsWrong)

/-- 'dovecotelaw07.RouteLong': WHATEVER THE INPUT: true; the input reads as it did. -/
def routeLongSpec : ChangeSpec := { name := "routeLong", fn := fun _ => fun
  | [d1, d2] => { results := [.lit (.bool true)], args := [d1, d2] }
  | _ => none }
def routeLongRow : OpenClaim := { program := "ythcopaeelbaobaa", sum := "cb90a4f82e1c846dba81f679ab8c599da91bc9ddffc56038c87ebda1033a3d26", func := "dovecote/dovecotelaw07.RouteLong", spec := "routeLong", apart := false }
def RouteLongSaid : Prop := routeLongRow.holds Try.pinned (OpenSpec.ofChange routeLongSpec)

/-- ITS FALSE NEIGHBOUR: 'it returns false'. Refute it at one input. -/
def routeLongWrong : ChangeSpec := { name := "routeLong", fn := fun _ => fun
  | [d1, d2] => { results := [.lit (.bool false)], args := [d1, d2] }
  | _ => none }
def RouteLongWrongFalsely : Prop := routeLongRow.holds Try.pinned (OpenSpec.ofChange routeLongWrong)

/- THE SECOND FORM. 'bulk': how many values and letters a reading holds, each counted each time it is reached (what is shared counts as often as it is met; a slice's spare places count too). A statement '..UptoSaid' is the law's where the arguments, and the package variables that the reading takes, are together of bulk at most 1048576: NARROWER than '..Said'. Prove '..Said' where nothing that the law and all that it calls make is longer than what came in: it says more and counts as full. Else prove '..UptoSaid'. A law counts once. -/
mutual
def uptoBulk {H : Type} : DataW H → Nat
  | .lit (.string bytes) => bytes.length + 1
  | .lit _ => 1
  | .nil => 1
  | .ptr d => uptoBulk d + 1
  | .slice elems spare => uptoBulkAll elems + uptoBulkAll spare + 1
  | .agg parts => uptoBulkAll parts + 1
  | .iface _ d => uptoBulk d + 1
  | .map entries => uptoBulkEntries entries + 1
  | .held _ => 1
def uptoBulkAll {H : Type} : List (DataW H) → Nat
  | [] => 0
  | d :: r => uptoBulk d + uptoBulkAll r
def uptoBulkEntries {H : Type} : List (Lit × DataW H) → Nat
  | [] => 0
  | x :: r => uptoBulkEntry x + uptoBulkEntries r
def uptoBulkEntry {H : Type} : Lit × DataW H → Nat
  | (.string bytes, d) => bytes.length + uptoBulk d + 1
  | (_, d) => uptoBulk d + 1
 end
def uptoSmall : (H : Type) → List (DataW H) → Bool := fun _ ds => decide (uptoBulkAll ds ≤ 1048576)
def OpenSpec.upto (s : _root_.Go.ChangeSpec) : _root_.Go.OpenSpec := { _root_.Go.OpenSpec.ofChange s with cond := some uptoSmall }

/-- 'dovecotelaw07.RouteBytes', WHERE WHAT IT READS IS OF BULK AT MOST 1048576: true; the input reads as it did. -/
def routeBytesUptoRow : OpenClaim := { program := "ythcopaeelbaobaa", sum := "cb90a4f82e1c846dba81f679ab8c599da91bc9ddffc56038c87ebda1033a3d26", func := "dovecote/dovecotelaw07.RouteBytes", spec := "routeBytes", apart := false, narrowed := true }
def RouteBytesUptoSaid : Prop := routeBytesUptoRow.holds Try.pinned (OpenSpec.upto routeBytesSpec)

/-- 'dovecotelaw07.RouteReads', WHERE WHAT IT READS IS OF BULK AT MOST 1048576: true; the input reads as it did. -/
def routeReadsUptoRow : OpenClaim := { program := "ythcopaeelbaobaa", sum := "cb90a4f82e1c846dba81f679ab8c599da91bc9ddffc56038c87ebda1033a3d26", func := "dovecote/dovecotelaw07.RouteReads", spec := "routeReads", apart := false, narrowed := true }
def RouteReadsUptoSaid : Prop := routeReadsUptoRow.holds Try.pinned (OpenSpec.upto routeReadsSpec)

/-- 'dovecotelaw07.RoutePaths', WHERE WHAT IT READS IS OF BULK AT MOST 1048576: true; the input reads as it did. -/
def routePathsUptoRow : OpenClaim := { program := "ythcopaeelbaobaa", sum := "cb90a4f82e1c846dba81f679ab8c599da91bc9ddffc56038c87ebda1033a3d26", func := "dovecote/dovecotelaw07.RoutePaths", spec := "routePaths", apart := false, narrowed := true }
def RoutePathsUptoSaid : Prop := routePathsUptoRow.holds Try.pinned (OpenSpec.upto routePathsSpec)

/-- 'dovecotelaw07.RouteBack', WHERE WHAT IT READS IS OF BULK AT MOST 1048576: true; the input reads as it did. -/
def routeBackUptoRow : OpenClaim := { program := "ythcopaeelbaobaa", sum := "cb90a4f82e1c846dba81f679ab8c599da91bc9ddffc56038c87ebda1033a3d26", func := "dovecote/dovecotelaw07.RouteBack", spec := "routeBack", apart := false, narrowed := true }
def RouteBackUptoSaid : Prop := routeBackUptoRow.holds Try.pinned (OpenSpec.upto routeBackSpec)

/-- 'dovecotelaw07.RouteGrows', WHERE WHAT IT READS IS OF BULK AT MOST 1048576: true; the input reads as it did. -/
def routeGrowsUptoRow : OpenClaim := { program := "ythcopaeelbaobaa", sum := "cb90a4f82e1c846dba81f679ab8c599da91bc9ddffc56038c87ebda1033a3d26", func := "dovecote/dovecotelaw07.RouteGrows", spec := "routeGrows", apart := false, narrowed := true }
def RouteGrowsUptoSaid : Prop := routeGrowsUptoRow.holds Try.pinned (OpenSpec.upto routeGrowsSpec)

/-- 'dovecotelaw07.RouteLong', WHERE WHAT IT READS IS OF BULK AT MOST 1048576: true; the input reads as it did. -/
def routeLongUptoRow : OpenClaim := { program := "ythcopaeelbaobaa", sum := "cb90a4f82e1c846dba81f679ab8c599da91bc9ddffc56038c87ebda1033a3d26", func := "dovecote/dovecotelaw07.RouteLong", spec := "routeLong", apart := false, narrowed := true }
def RouteLongUptoSaid : Prop := routeLongUptoRow.holds Try.pinned (OpenSpec.upto routeLongSpec)

end Rows
end Go.Proofs.Ythcopaeelbaobaa
