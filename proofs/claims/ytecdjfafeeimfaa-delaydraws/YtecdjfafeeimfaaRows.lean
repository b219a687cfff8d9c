/-
  No cell of these rows narrows 'for every input' (looked for: loops, veiled, ifaces, maps, wideKeys, modest, calm, conditions, laid).
  DERIVED. THE GIVEN ROWS OF THIS SEAT. 5 by the template 'for every input the law returns true; each argument reads behind the call as it read before'; 0 by the template 'total and deterministic' (their statements: YtecdjfafeeimfaaTotals.lean).
  GIVEN WITH THE SEED: the statements are not yours to turn. If you find one false, say at which input.
  Laid BY PROGRAM, IN A SANDBOX (cutbox-rows.mjs): the forced cells as the released guide's own fill.sh prints them over the translation 20427b6e453ea9cd… (all of the seat's roots in one cut). By AI agents, Wed Nov 11 2026. No macro, syntax, notation, axiom, sorry.
-/
import Derived.Test.YtecdjfafeeimfaaChecked
import GoSem.Claim
import GoSem.ClaimJoined
import GoSem.ClaimMapViews
import Derived.JoinedTies
import Derived.KernelRfl
namespace Go.Proofs.Ytecdjfafeeimfaa
/- THE CELL 'sum', in the pinned program and in every row, IS THE sha256 OF THE DUMP (.gsa) THAT YtecdjfafeeimfaaProg.lean LOADS. Nothing in Lean hashes anything: it is a label: what it is worth is what the hold of that sum in a sandbox is worth. -/
noncomputable def Try.pinned : Pinned := { name := "ytecdjfafeeimfaa", sum := "20427b6e453ea9cd4c3682ddc21195026d4e2ef57d5f7ae6ae10464fb8bcc68b", checked := Try.checked }
namespace Rows
def none {H : Type} : Left H := { results := [], args := [] }

/-- 'dovecotelaw13.DelayTables': WHATEVER THE INPUT: true; the input reads as it did. -/
def delayTablesSpec : ChangeSpec := { name := "delayTables", fn := fun _ => fun
  | [d1, d2, d3] => { results := [.lit (.bool true)], args := [d1, d2, d3] }
  | _ => none }
def delayTablesRow : OpenClaim := { program := "ytecdjfafeeimfaa", sum := "20427b6e453ea9cd4c3682ddc21195026d4e2ef57d5f7ae6ae10464fb8bcc68b", func := "dovecote/dovecotelaw13.DelayTables", spec := "delayTables", unfollowed := true, recurses := true, apart := false }
def DelayTablesSaid : Prop := delayTablesRow.holds Try.pinned (OpenSpec.ofChange delayTablesSpec)

/-- ITS FALSE NEIGHBOUR: 'it returns false'. Refute it at one input. -/
def delayTablesWrong : ChangeSpec := { name := "delayTables", fn := fun _ => fun
  | [d1, d2, d3] => { results := [.lit (.bool false)], args := [d1, d2, d3] }
  | _ => none }
def DelayTablesWrongFalsely : Prop := delayTablesRow.holds Try.pinned (OpenSpec.ofChange delayTablesWrong)

/-- 'dovecotelaw13.DelayDraws': WHATEVER THE INPUT: true; the input reads as it did. -/
def delayDrawsSpec : ChangeSpec := { name := "delayDraws", fn := fun _ => fun
  | [d1, d2, d3] => { results := [.lit (.bool true)], args := [d1, d2, d3] }
  | _ => none }
def delayDrawsRow : OpenClaim := { program := "ytecdjfafeeimfaa", sum := "20427b6e453ea9cd4c3682ddc21195026d4e2ef57d5f7ae6ae10464fb8bcc68b", func := "dovecote/dovecotelaw13.DelayDraws", spec := "delayDraws", unfollowed := true, recurses := true, apart := false }
def DelayDrawsSaid : Prop := delayDrawsRow.holds Try.pinned (OpenSpec.ofChange delayDrawsSpec)

/-- ITS FALSE NEIGHBOUR: 'it returns false'. Refute it at one input. -/
def delayDrawsWrong : ChangeSpec := { name := "delayDraws", fn := fun _ => fun
  | [d1, d2, d3] => { results := [.lit (.bool false)], args := [d1, d2, d3] }
  | _ => none }
def DelayDrawsWrongFalsely : Prop := delayDrawsRow.holds Try.pinned (OpenSpec.ofChange delayDrawsWrong)

/-- 'dovecotelaw13.DelayCounts': WHATEVER THE INPUT: true; the input reads as it did. -/
def delayCountsSpec : ChangeSpec := { name := "delayCounts", fn := fun _ => fun
  | [d1, d2, d3] => { results := [.lit (.bool true)], args := [d1, d2, d3] }
  | _ => none }
def delayCountsRow : OpenClaim := { program := "ytecdjfafeeimfaa", sum := "20427b6e453ea9cd4c3682ddc21195026d4e2ef57d5f7ae6ae10464fb8bcc68b", func := "dovecote/dovecotelaw13.DelayCounts", spec := "delayCounts", unfollowed := true, recurses := true, apart := false }
def DelayCountsSaid : Prop := delayCountsRow.holds Try.pinned (OpenSpec.ofChange delayCountsSpec)

/-- ITS FALSE NEIGHBOUR: 'it returns false'. Refute it at one input. -/
def delayCountsWrong : ChangeSpec := { name := "delayCounts", fn := fun _ => fun
  | [d1, d2, d3] => { results := [.lit (.bool false)], args := [d1, d2, d3] }
  | _ => none }
def DelayCountsWrongFalsely : Prop := delayCountsRow.holds Try.pinned (OpenSpec.ofChange delayCountsWrong)

/-- 'dovecotelaw13.DelayFalls': WHATEVER THE INPUT: true; the input reads as it did. -/
def delayFallsSpec : ChangeSpec := { name := "delayFalls", fn := fun _ => fun
  | [d1, d2, d3] => { results := [.lit (.bool true)], args := [d1, d2, d3] }
  | _ => none }
def delayFallsRow : OpenClaim := { program := "ytecdjfafeeimfaa", sum := "20427b6e453ea9cd4c3682ddc21195026d4e2ef57d5f7ae6ae10464fb8bcc68b", func := "dovecote/dovecotelaw13.DelayFalls", spec := "delayFalls", unfollowed := true, recurses := true, apart := false }
def DelayFallsSaid : Prop := delayFallsRow.holds Try.pinned (OpenSpec.ofChange delayFallsSpec)

/-- ITS FALSE NEIGHBOUR: 'it returns false'. Refute it at one input. -/
def delayFallsWrong : ChangeSpec := { name := "delayFalls", fn := fun _ => fun
  | [d1, d2, d3] => { results := [.lit (.bool false)], args := [d1, d2, d3] }
  | _ => none }
def DelayFallsWrongFalsely : Prop := delayFallsRow.holds Try.pinned (OpenSpec.ofChange delayFallsWrong)

/-- 'dovecotelaw13.DelayOneByOne': WHATEVER THE INPUT: true; the input reads as it did. -/
def delayOneByOneSpec : ChangeSpec := { name := "delayOneByOne", fn := fun _ => fun
  | [d1, d2, d3] => { results := [.lit (.bool true)], args := [d1, d2, d3] }
  | _ => none }
def delayOneByOneRow : OpenClaim := { program := "ytecdjfafeeimfaa", sum := "20427b6e453ea9cd4c3682ddc21195026d4e2ef57d5f7ae6ae10464fb8bcc68b", func := "dovecote/dovecotelaw13.DelayOneByOne", spec := "delayOneByOne", unfollowed := true, recurses := true, apart := false }
def DelayOneByOneSaid : Prop := delayOneByOneRow.holds Try.pinned (OpenSpec.ofChange delayOneByOneSpec)

/-- ITS FALSE NEIGHBOUR: 'it returns false'. Refute it at one input. -/
def delayOneByOneWrong : ChangeSpec := { name := "delayOneByOne", fn := fun _ => fun
  | [d1, d2, d3] => { results := [.lit (.bool false)], args := [d1, d2, d3] }
  | _ => none }
def DelayOneByOneWrongFalsely : Prop := delayOneByOneRow.holds Try.pinned (OpenSpec.ofChange delayOneByOneWrong)

/- THE SECOND FORM. 'bulk': how many values and letters a reading holds, each counted each time it is reached (what is shared counts as often as it is met; a slice's spare places count too). A statement '..UptoSaid' is the law's where the arguments, and the package variables that the reading takes, are together of bulk at most 1048576: NARROWER than '..Said'. Prove '..Said' where nothing that the law and all that it calls make is longer than what came in: it says more and counts as full. Else prove '..UptoSaid'. A law counts once. -/
mutual
def uptoBulk {H : Type} : DataW H → Nat
  | .lit (.string bytes) => bytes.length + 1
  | .lit _ => 1
  | .nil => 1
  | .ptr d => uptoBulk d + 1
  | .slice elems spare => uptoBulkAll elems + uptoBulkAll spare + 1
  | .agg parts => uptoBulkAll parts + 1
  | .iface _ d => uptoBulk d + 1
  | .map entries => uptoBulkEntries entries + 1
  | .held _ => 1
def uptoBulkAll {H : Type} : List (DataW H) → Nat
  | [] => 0
  | d :: r => uptoBulk d + uptoBulkAll r
def uptoBulkEntries {H : Type} : List (Lit × DataW H) → Nat
  | [] => 0
  | x :: r => uptoBulkEntry x + uptoBulkEntries r
def uptoBulkEntry {H : Type} : Lit × DataW H → Nat
  | (.string bytes, d) => bytes.length + uptoBulk d + 1
  | (_, d) => uptoBulk d + 1
 end
def uptoSmall : (H : Type) → List (DataW H) → Bool := fun _ ds => decide (uptoBulkAll ds ≤ 1048576)
def OpenSpec.upto (s : _root_.Go.ChangeSpec) : _root_.Go.OpenSpec := { _root_.Go.OpenSpec.ofChange s with cond := some uptoSmall }

/-- 'dovecotelaw13.DelayTables', WHERE WHAT IT READS IS OF BULK AT MOST 1048576: true; the input reads as it did. -/
def delayTablesUptoRow : OpenClaim := { program := "ytecdjfafeeimfaa", sum := "20427b6e453ea9cd4c3682ddc21195026d4e2ef57d5f7ae6ae10464fb8bcc68b", func := "dovecote/dovecotelaw13.DelayTables", spec := "delayTables", unfollowed := true, recurses := true, apart := false, narrowed := true }
def DelayTablesUptoSaid : Prop := delayTablesUptoRow.holds Try.pinned (OpenSpec.upto delayTablesSpec)

/-- 'dovecotelaw13.DelayDraws', WHERE WHAT IT READS IS OF BULK AT MOST 1048576: true; the input reads as it did. -/
def delayDrawsUptoRow : OpenClaim := { program := "ytecdjfafeeimfaa", sum := "20427b6e453ea9cd4c3682ddc21195026d4e2ef57d5f7ae6ae10464fb8bcc68b", func := "dovecote/dovecotelaw13.DelayDraws", spec := "delayDraws", unfollowed := true, recurses := true, apart := false, narrowed := true }
def DelayDrawsUptoSaid : Prop := delayDrawsUptoRow.holds Try.pinned (OpenSpec.upto delayDrawsSpec)

/-- 'dovecotelaw13.DelayCounts', WHERE WHAT IT READS IS OF BULK AT MOST 1048576: true; the input reads as it did. -/
def delayCountsUptoRow : OpenClaim := { program := "ytecdjfafeeimfaa", sum := "20427b6e453ea9cd4c3682ddc21195026d4e2ef57d5f7ae6ae10464fb8bcc68b", func := "dovecote/dovecotelaw13.DelayCounts", spec := "delayCounts", unfollowed := true, recurses := true, apart := false, narrowed := true }
def DelayCountsUptoSaid : Prop := delayCountsUptoRow.holds Try.pinned (OpenSpec.upto delayCountsSpec)

/-- 'dovecotelaw13.DelayFalls', WHERE WHAT IT READS IS OF BULK AT MOST 1048576: true; the input reads as it did. -/
def delayFallsUptoRow : OpenClaim := { program := "ytecdjfafeeimfaa", sum := "20427b6e453ea9cd4c3682ddc21195026d4e2ef57d5f7ae6ae10464fb8bcc68b", func := "dovecote/dovecotelaw13.DelayFalls", spec := "delayFalls", unfollowed := true, recurses := true, apart := false, narrowed := true }
def DelayFallsUptoSaid : Prop := delayFallsUptoRow.holds Try.pinned (OpenSpec.upto delayFallsSpec)

/-- 'dovecotelaw13.DelayOneByOne', WHERE WHAT IT READS IS OF BULK AT MOST 1048576: true; the input reads as it did. -/
def delayOneByOneUptoRow : OpenClaim := { program := "ytecdjfafeeimfaa", sum := "20427b6e453ea9cd4c3682ddc21195026d4e2ef57d5f7ae6ae10464fb8bcc68b", func := "dovecote/dovecotelaw13.DelayOneByOne", spec := "delayOneByOne", unfollowed := true, recurses := true, apart := false, narrowed := true }
def DelayOneByOneUptoSaid : Prop := delayOneByOneUptoRow.holds Try.pinned (OpenSpec.upto delayOneByOneSpec)

end Rows
end Go.Proofs.Ytecdjfafeeimfaa
