/-
  No cell of these rows narrows 'for every input' (looked for: loops, veiled, ifaces, maps, wideKeys, modest, calm, conditions, laid).
  DERIVED. THE GIVEN ROWS OF THIS SEAT. 5 by the template 'for every input the law returns true; each argument reads behind the call as it read before'; 0 by the template 'total and deterministic' (their statements: YtfieabdjfhkpjaaTotals.lean).
  GIVEN WITH THE SEED: the statements are not yours to turn. If you find one false, say at which input.
  Laid BY PROGRAM, IN A SANDBOX (cutbox-rows.mjs): the forced cells as the released guide's own fill.sh prints them over the translation 0281ed785d2c3186… (all of the seat's roots in one cut). By AI agents, Wed Nov 11 2026. No macro, syntax, notation, axiom, sorry.
-/
import Derived.Test.YtfieabdjfhkpjaaChecked
import GoSem.Claim
import GoSem.ClaimJoined
import GoSem.ClaimMapViews
import Derived.JoinedTies
import Derived.KernelRfl
namespace Go.Proofs.Ytfieabdjfhkpjaa
/- THE CELL 'sum', in the pinned program and in every row, IS THE sha256 OF THE DUMP (.gsa) THAT YtfieabdjfhkpjaaProg.lean LOADS. Nothing in Lean hashes anything: it is a label: what it is worth is what the hold of that sum in a sandbox is worth. -/
noncomputable def Try.pinned : Pinned := { name := "ytfieabdjfhkpjaa", sum := "0281ed785d2c3186ab5e58631b84bc531e90c3788d5210575c5961cbd5edf54a", checked := Try.checked }
namespace Rows
def none {H : Type} : Left H := { results := [], args := [] }

/-- 'dovecotelaw12.TapePlays': WHATEVER THE INPUT: true; the input reads as it did. -/
def tapePlaysSpec : ChangeSpec := { name := "tapePlays", fn := fun _ => fun
  | [d1, d2] => { results := [.lit (.bool true)], args := [d1, d2] }
  | _ => none }
def tapePlaysRow : OpenClaim := { program := "ytfieabdjfhkpjaa", sum := "0281ed785d2c3186ab5e58631b84bc531e90c3788d5210575c5961cbd5edf54a", func := "dovecote/dovecotelaw12.TapePlays", spec := "tapePlays", apart := false }
def TapePlaysSaid : Prop := tapePlaysRow.holds Try.pinned (OpenSpec.ofChange tapePlaysSpec)

/-- ITS FALSE NEIGHBOUR: 'it returns false'. Refute it at one input. -/
def tapePlaysWrong : ChangeSpec := { name := "tapePlays", fn := fun _ => fun
  | [d1, d2] => { results := [.lit (.bool false)], args := [d1, d2] }
  | _ => none }
def TapePlaysWrongFalsely : Prop := tapePlaysRow.holds Try.pinned (OpenSpec.ofChange tapePlaysWrong)

/-- 'dovecotelaw12.TapeOrders': WHATEVER THE INPUT: true; the input reads as it did. -/
def tapeOrdersSpec : ChangeSpec := { name := "tapeOrders", fn := fun _ => fun
  | [d1, d2] => { results := [.lit (.bool true)], args := [d1, d2] }
  | _ => none }
def tapeOrdersRow : OpenClaim := { program := "ytfieabdjfhkpjaa", sum := "0281ed785d2c3186ab5e58631b84bc531e90c3788d5210575c5961cbd5edf54a", func := "dovecote/dovecotelaw12.TapeOrders", spec := "tapeOrders", apart := false }
def TapeOrdersSaid : Prop := tapeOrdersRow.holds Try.pinned (OpenSpec.ofChange tapeOrdersSpec)

/-- ITS FALSE NEIGHBOUR: 'it returns false'. Refute it at one input. -/
def tapeOrdersWrong : ChangeSpec := { name := "tapeOrders", fn := fun _ => fun
  | [d1, d2] => { results := [.lit (.bool false)], args := [d1, d2] }
  | _ => none }
def TapeOrdersWrongFalsely : Prop := tapeOrdersRow.holds Try.pinned (OpenSpec.ofChange tapeOrdersWrong)

/-- 'dovecotelaw12.TapeBelow': WHATEVER THE INPUT: true; the input reads as it did. -/
def tapeBelowSpec : ChangeSpec := { name := "tapeBelow", fn := fun _ => fun
  | [d1, d2, d3] => { results := [.lit (.bool true)], args := [d1, d2, d3] }
  | _ => none }
def tapeBelowRow : OpenClaim := { program := "ytfieabdjfhkpjaa", sum := "0281ed785d2c3186ab5e58631b84bc531e90c3788d5210575c5961cbd5edf54a", func := "dovecote/dovecotelaw12.TapeBelow", spec := "tapeBelow", apart := false }
def TapeBelowSaid : Prop := tapeBelowRow.holds Try.pinned (OpenSpec.ofChange tapeBelowSpec)

/-- ITS FALSE NEIGHBOUR: 'it returns false'. Refute it at one input. -/
def tapeBelowWrong : ChangeSpec := { name := "tapeBelow", fn := fun _ => fun
  | [d1, d2, d3] => { results := [.lit (.bool false)], args := [d1, d2, d3] }
  | _ => none }
def TapeBelowWrongFalsely : Prop := tapeBelowRow.holds Try.pinned (OpenSpec.ofChange tapeBelowWrong)

/-- 'dovecotelaw12.TapeReads': WHATEVER THE INPUT: true; the input reads as it did. -/
def tapeReadsSpec : ChangeSpec := { name := "tapeReads", fn := fun _ => fun
  | [d1, d2] => { results := [.lit (.bool true)], args := [d1, d2] }
  | _ => none }
def tapeReadsRow : OpenClaim := { program := "ytfieabdjfhkpjaa", sum := "0281ed785d2c3186ab5e58631b84bc531e90c3788d5210575c5961cbd5edf54a", func := "dovecote/dovecotelaw12.TapeReads", spec := "tapeReads", apart := false }
def TapeReadsSaid : Prop := tapeReadsRow.holds Try.pinned (OpenSpec.ofChange tapeReadsSpec)

/-- ITS FALSE NEIGHBOUR: 'it returns false'. Refute it at one input. -/
def tapeReadsWrong : ChangeSpec := { name := "tapeReads", fn := fun _ => fun
  | [d1, d2] => { results := [.lit (.bool false)], args := [d1, d2] }
  | _ => none }
def TapeReadsWrongFalsely : Prop := tapeReadsRow.holds Try.pinned (OpenSpec.ofChange tapeReadsWrong)

/-- 'dovecotelaw12.TapeForks': WHATEVER THE INPUT: true; the input reads as it did. -/
def tapeForksSpec : ChangeSpec := { name := "tapeForks", fn := fun _ => fun
  | [d1, d2] => { results := [.lit (.bool true)], args := [d1, d2] }
  | _ => none }
def tapeForksRow : OpenClaim := { program := "ytfieabdjfhkpjaa", sum := "0281ed785d2c3186ab5e58631b84bc531e90c3788d5210575c5961cbd5edf54a", func := "dovecote/dovecotelaw12.TapeForks", spec := "tapeForks", apart := false }
def TapeForksSaid : Prop := tapeForksRow.holds Try.pinned (OpenSpec.ofChange tapeForksSpec)

/-- ITS FALSE NEIGHBOUR: 'it returns false'. Refute it at one input. -/
def tapeForksWrong : ChangeSpec := { name := "tapeForks", fn := fun _ => fun
  | [d1, d2] => { results := [.lit (.bool false)], args := [d1, d2] }
  | _ => none }
def TapeForksWrongFalsely : Prop := tapeForksRow.holds Try.pinned (OpenSpec.ofChange tapeForksWrong)

/- THE SECOND FORM. 'bulk': how many values and letters a reading holds, each counted each time it is reached (what is shared counts as often as it is met; a slice's spare places count too). A statement '..UptoSaid' is the law's where the arguments, and the package variables that the reading takes, are together of bulk at most 1048576: NARROWER than '..Said'. Prove '..Said' where nothing that the law and all that it calls make is longer than what came in: it says more and counts as full. Else prove '..UptoSaid'. A law counts once. -/
mutual
def uptoBulk {H : Type} : DataW H → Nat
  | .lit (.string bytes) => bytes.length + 1
  | .lit _ => 1
  | .nil => 1
  | .ptr d => uptoBulk d + 1
  | .slice elems spare => uptoBulkAll elems + uptoBulkAll spare + 1
  | .agg parts => uptoBulkAll parts + 1
  | .iface _ d => uptoBulk d + 1
  | .map entries => uptoBulkEntries entries + 1
  | .held _ => 1
def uptoBulkAll {H : Type} : List (DataW H) → Nat
  | [] => 0
  | d :: r => uptoBulk d + uptoBulkAll r
def uptoBulkEntries {H : Type} : List (Lit × DataW H) → Nat
  | [] => 0
  | x :: r => uptoBulkEntry x + uptoBulkEntries r
def uptoBulkEntry {H : Type} : Lit × DataW H → Nat
  | (.string bytes, d) => bytes.length + uptoBulk d + 1
  | (_, d) => uptoBulk d + 1
 end
def uptoSmall : (H : Type) → List (DataW H) → Bool := fun _ ds => decide (uptoBulkAll ds ≤ 1048576)
def OpenSpec.upto (s : _root_.Go.ChangeSpec) : _root_.Go.OpenSpec := { _root_.Go.OpenSpec.ofChange s with cond := some uptoSmall }

/-- 'dovecotelaw12.TapePlays', WHERE WHAT IT READS IS OF BULK AT MOST 1048576: true; the input reads as it did. -/
def tapePlaysUptoRow : OpenClaim := { program := "ytfieabdjfhkpjaa", sum := "0281ed785d2c3186ab5e58631b84bc531e90c3788d5210575c5961cbd5edf54a", func := "dovecote/dovecotelaw12.TapePlays", spec := "tapePlays", apart := false, narrowed := true }
def TapePlaysUptoSaid : Prop := tapePlaysUptoRow.holds Try.pinned (OpenSpec.upto tapePlaysSpec)

/-- 'dovecotelaw12.TapeOrders', WHERE WHAT IT READS IS OF BULK AT MOST 1048576: true; the input reads as it did. -/
def tapeOrdersUptoRow : OpenClaim := { program := "ytfieabdjfhkpjaa", sum := "0281ed785d2c3186ab5e58631b84bc531e90c3788d5210575c5961cbd5edf54a", func := "dovecote/dovecotelaw12.TapeOrders", spec := "tapeOrders", apart := false, narrowed := true }
def TapeOrdersUptoSaid : Prop := tapeOrdersUptoRow.holds Try.pinned (OpenSpec.upto tapeOrdersSpec)

/-- 'dovecotelaw12.TapeBelow', WHERE WHAT IT READS IS OF BULK AT MOST 1048576: true; the input reads as it did. -/
def tapeBelowUptoRow : OpenClaim := { program := "ytfieabdjfhkpjaa", sum := "0281ed785d2c3186ab5e58631b84bc531e90c3788d5210575c5961cbd5edf54a", func := "dovecote/dovecotelaw12.TapeBelow", spec := "tapeBelow", apart := false, narrowed := true }
def TapeBelowUptoSaid : Prop := tapeBelowUptoRow.holds Try.pinned (OpenSpec.upto tapeBelowSpec)

/-- 'dovecotelaw12.TapeReads', WHERE WHAT IT READS IS OF BULK AT MOST 1048576: true; the input reads as it did. -/
def tapeReadsUptoRow : OpenClaim := { program := "ytfieabdjfhkpjaa", sum := "0281ed785d2c3186ab5e58631b84bc531e90c3788d5210575c5961cbd5edf54a", func := "dovecote/dovecotelaw12.TapeReads", spec := "tapeReads", apart := false, narrowed := true }
def TapeReadsUptoSaid : Prop := tapeReadsUptoRow.holds Try.pinned (OpenSpec.upto tapeReadsSpec)

/-- 'dovecotelaw12.TapeForks', WHERE WHAT IT READS IS OF BULK AT MOST 1048576: true; the input reads as it did. -/
def tapeForksUptoRow : OpenClaim := { program := "ytfieabdjfhkpjaa", sum := "0281ed785d2c3186ab5e58631b84bc531e90c3788d5210575c5961cbd5edf54a", func := "dovecote/dovecotelaw12.TapeForks", spec := "tapeForks", apart := false, narrowed := true }
def TapeForksUptoSaid : Prop := tapeForksUptoRow.holds Try.pinned (OpenSpec.upto tapeForksSpec)

end Rows
end Go.Proofs.Ytfieabdjfhkpjaa
