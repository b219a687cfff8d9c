/-
  No cell of these rows narrows 'for every input' (looked for: loops, veiled, ifaces, maps, wideKeys, modest, calm, conditions, laid).
  DERIVED. THE GIVEN ROWS OF THIS SEAT. 6 by the template 'for every input the law returns true; each argument reads behind the call as it read before'; 0 by the template 'total and deterministic' (their statements: YtdebfelgaiofeaaTotals.lean).
  GIVEN WITH THE SEED: the statements are not yours to turn. If you find one false, say at which input.
  Laid BY PROGRAM, IN A SANDBOX (cutbox-rows.mjs): the forced cells as the released guide's own fill.sh prints them over the translation 79b1453028ef37fb… (all of the seat's roots in one cut). By AI agents, Wed Nov 11 2026. No macro, syntax, notation, axiom, sorry.
-/
import Derived.Test.YtdebfelgaiofeaaChecked
import GoSem.Claim
import GoSem.ClaimJoined
import GoSem.ClaimMapViews
import Derived.JoinedTies
import Derived.KernelRfl
namespace Go.Proofs.Ytdebfelgaiofeaa
/- THE CELL 'sum', in the pinned program and in every row, IS THE sha256 OF THE DUMP (.gsa) THAT YtdebfelgaiofeaaProg.lean LOADS. Nothing in Lean hashes anything: it is a label: what it is worth is what the hold of that sum in a sandbox is worth. -/
noncomputable def Try.pinned : Pinned := { name := "ytdebfelgaiofeaa", sum := "79b1453028ef37fb8fb674393df24dcc4bf46976edf6ebbe4a50bc939eea033b", checked := Try.checked }
namespace Rows
def none {H : Type} : Left H := { results := [], args := [] }

/-- 'dovecotelaw02.CurveTimes': WHATEVER THE INPUT: true; the input reads as it did. -/
def curveTimesSpec : ChangeSpec := { name := "curveTimes", fn := fun _ => fun
  | [d1, d2] => { results := [.lit (.bool true)], args := [d1, d2] }
  | _ => none }
def curveTimesRow : OpenClaim := { program := "ytdebfelgaiofeaa", sum := "79b1453028ef37fb8fb674393df24dcc4bf46976edf6ebbe4a50bc939eea033b", func := "dovecote/dovecotelaw02.CurveTimes", spec := "curveTimes", inPlace := ["math/bits.Add64", "math/bits.Sub64"], apart := false }
def CurveTimesSaid : Prop := curveTimesRow.holds Try.pinned (OpenSpec.ofChange curveTimesSpec)

/-- ITS FALSE NEIGHBOUR: 'it returns false'. Refute it at one input. -/
def curveTimesWrong : ChangeSpec := { name := "curveTimes", fn := fun _ => fun
  | [d1, d2] => { results := [.lit (.bool false)], args := [d1, d2] }
  | _ => none }
def CurveTimesWrongFalsely : Prop := curveTimesRow.holds Try.pinned (OpenSpec.ofChange curveTimesWrong)

/-- 'dovecotelaw02.CurveShared': WHATEVER THE INPUT: true; the input reads as it did. -/
def curveSharedSpec : ChangeSpec := { name := "curveShared", fn := fun _ => fun
  | [d1, d2] => { results := [.lit (.bool true)], args := [d1, d2] }
  | _ => none }
def curveSharedRow : OpenClaim := { program := "ytdebfelgaiofeaa", sum := "79b1453028ef37fb8fb674393df24dcc4bf46976edf6ebbe4a50bc939eea033b", func := "dovecote/dovecotelaw02.CurveShared", spec := "curveShared", inPlace := ["math/bits.Add64", "math/bits.Sub64"], apart := false }
def CurveSharedSaid : Prop := curveSharedRow.holds Try.pinned (OpenSpec.ofChange curveSharedSpec)

/-- ITS FALSE NEIGHBOUR: 'it returns false'. Refute it at one input. -/
def curveSharedWrong : ChangeSpec := { name := "curveShared", fn := fun _ => fun
  | [d1, d2] => { results := [.lit (.bool false)], args := [d1, d2] }
  | _ => none }
def CurveSharedWrongFalsely : Prop := curveSharedRow.holds Try.pinned (OpenSpec.ofChange curveSharedWrong)

/-- 'dovecotelaw02.CurveChains': WHATEVER THE INPUT: true; the input reads as it did. -/
def curveChainsSpec : ChangeSpec := { name := "curveChains", fn := fun _ => fun
  | [d1, d2] => { results := [.lit (.bool true)], args := [d1, d2] }
  | _ => none }
def curveChainsRow : OpenClaim := { program := "ytdebfelgaiofeaa", sum := "79b1453028ef37fb8fb674393df24dcc4bf46976edf6ebbe4a50bc939eea033b", func := "dovecote/dovecotelaw02.CurveChains", spec := "curveChains", inPlace := ["math/bits.Add64", "math/bits.Sub64"], apart := false }
def CurveChainsSaid : Prop := curveChainsRow.holds Try.pinned (OpenSpec.ofChange curveChainsSpec)

/-- ITS FALSE NEIGHBOUR: 'it returns false'. Refute it at one input. -/
def curveChainsWrong : ChangeSpec := { name := "curveChains", fn := fun _ => fun
  | [d1, d2] => { results := [.lit (.bool false)], args := [d1, d2] }
  | _ => none }
def CurveChainsWrongFalsely : Prop := curveChainsRow.holds Try.pinned (OpenSpec.ofChange curveChainsWrong)

/-- 'dovecotelaw02.CurveAgree': WHATEVER THE INPUT: true; the input reads as it did. -/
def curveAgreeSpec : ChangeSpec := { name := "curveAgree", fn := fun _ => fun
  | [d1, d2, d3] => { results := [.lit (.bool true)], args := [d1, d2, d3] }
  | _ => none }
def curveAgreeRow : OpenClaim := { program := "ytdebfelgaiofeaa", sum := "79b1453028ef37fb8fb674393df24dcc4bf46976edf6ebbe4a50bc939eea033b", func := "dovecote/dovecotelaw02.CurveAgree", spec := "curveAgree", inPlace := ["math/bits.Add64", "math/bits.Sub64"], apart := false }
def CurveAgreeSaid : Prop := curveAgreeRow.holds Try.pinned (OpenSpec.ofChange curveAgreeSpec)

/-- ITS FALSE NEIGHBOUR: 'it returns false'. Refute it at one input. -/
def curveAgreeWrong : ChangeSpec := { name := "curveAgree", fn := fun _ => fun
  | [d1, d2, d3] => { results := [.lit (.bool false)], args := [d1, d2, d3] }
  | _ => none }
def CurveAgreeWrongFalsely : Prop := curveAgreeRow.holds Try.pinned (OpenSpec.ofChange curveAgreeWrong)

/-- 'dovecotelaw02.CurveBits': WHATEVER THE INPUT: true; the input reads as it did. -/
def curveBitsSpec : ChangeSpec := { name := "curveBits", fn := fun _ => fun
  | [d1, d2, d3] => { results := [.lit (.bool true)], args := [d1, d2, d3] }
  | _ => none }
def curveBitsRow : OpenClaim := { program := "ytdebfelgaiofeaa", sum := "79b1453028ef37fb8fb674393df24dcc4bf46976edf6ebbe4a50bc939eea033b", func := "dovecote/dovecotelaw02.CurveBits", spec := "curveBits", inPlace := ["math/bits.Add64", "math/bits.Sub64"], apart := false }
def CurveBitsSaid : Prop := curveBitsRow.holds Try.pinned (OpenSpec.ofChange curveBitsSpec)

/-- ITS FALSE NEIGHBOUR: 'it returns false'. Refute it at one input. -/
def curveBitsWrong : ChangeSpec := { name := "curveBits", fn := fun _ => fun
  | [d1, d2, d3] => { results := [.lit (.bool false)], args := [d1, d2, d3] }
  | _ => none }
def CurveBitsWrongFalsely : Prop := curveBitsRow.holds Try.pinned (OpenSpec.ofChange curveBitsWrong)

/-- 'dovecotelaw02.CurveSteps': WHATEVER THE INPUT: true; the input reads as it did. -/
def curveStepsSpec : ChangeSpec := { name := "curveSteps", fn := fun _ => fun
  | [d1, d2, d3] => { results := [.lit (.bool true)], args := [d1, d2, d3] }
  | _ => none }
def curveStepsRow : OpenClaim := { program := "ytdebfelgaiofeaa", sum := "79b1453028ef37fb8fb674393df24dcc4bf46976edf6ebbe4a50bc939eea033b", func := "dovecote/dovecotelaw02.CurveSteps", spec := "curveSteps", inPlace := ["math/bits.Add64", "math/bits.Sub64"], apart := false }
def CurveStepsSaid : Prop := curveStepsRow.holds Try.pinned (OpenSpec.ofChange curveStepsSpec)

/-- ITS FALSE NEIGHBOUR: 'it returns false'. Refute it at one input. -/
def curveStepsWrong : ChangeSpec := { name := "curveSteps", fn := fun _ => fun
  | [d1, d2, d3] => { results := [.lit (.bool false)], args := [d1, d2, d3] }
  | _ => none }
def CurveStepsWrongFalsely : Prop := curveStepsRow.holds Try.pinned (OpenSpec.ofChange curveStepsWrong)

/- THE SECOND FORM. 'bulk': how many values and letters a reading holds, each counted each time it is reached (what is shared counts as often as it is met; a slice's spare places count too). A statement '..UptoSaid' is the law's where the arguments, and the package variables that the reading takes, are together of bulk at most 1048576: NARROWER than '..Said'. Prove '..Said' where nothing that the law and all that it calls make is longer than what came in: it says more and counts as full. Else prove '..UptoSaid'. A law counts once. -/
mutual
def uptoBulk {H : Type} : DataW H → Nat
  | .lit (.string bytes) => bytes.length + 1
  | .lit _ => 1
  | .nil => 1
  | .ptr d => uptoBulk d + 1
  | .slice elems spare => uptoBulkAll elems + uptoBulkAll spare + 1
  | .agg parts => uptoBulkAll parts + 1
  | .iface _ d => uptoBulk d + 1
  | .map entries => uptoBulkEntries entries + 1
  | .held _ => 1
def uptoBulkAll {H : Type} : List (DataW H) → Nat
  | [] => 0
  | d :: r => uptoBulk d + uptoBulkAll r
def uptoBulkEntries {H : Type} : List (Lit × DataW H) → Nat
  | [] => 0
  | x :: r => uptoBulkEntry x + uptoBulkEntries r
def uptoBulkEntry {H : Type} : Lit × DataW H → Nat
  | (.string bytes, d) => bytes.length + uptoBulk d + 1
  | (_, d) => uptoBulk d + 1
 end
def uptoSmall : (H : Type) → List (DataW H) → Bool := fun _ ds => decide (uptoBulkAll ds ≤ 1048576)
def OpenSpec.upto (s : _root_.Go.ChangeSpec) : _root_.Go.OpenSpec := { _root_.Go.OpenSpec.ofChange s with cond := some uptoSmall }

/-- 'dovecotelaw02.CurveTimes', WHERE WHAT IT READS IS OF BULK AT MOST 1048576: true; the input reads as it did. -/
def curveTimesUptoRow : OpenClaim := { program := "ytdebfelgaiofeaa", sum := "79b1453028ef37fb8fb674393df24dcc4bf46976edf6ebbe4a50bc939eea033b", func := "dovecote/dovecotelaw02.CurveTimes", spec := "curveTimes", inPlace := ["math/bits.Add64", "math/bits.Sub64"], apart := false, narrowed := true }
def CurveTimesUptoSaid : Prop := curveTimesUptoRow.holds Try.pinned (OpenSpec.upto curveTimesSpec)

/-- 'dovecotelaw02.CurveShared', WHERE WHAT IT READS IS OF BULK AT MOST 1048576: true; the input reads as it did. -/
def curveSharedUptoRow : OpenClaim := { program := "ytdebfelgaiofeaa", sum := "79b1453028ef37fb8fb674393df24dcc4bf46976edf6ebbe4a50bc939eea033b", func := "dovecote/dovecotelaw02.CurveShared", spec := "curveShared", inPlace := ["math/bits.Add64", "math/bits.Sub64"], apart := false, narrowed := true }
def CurveSharedUptoSaid : Prop := curveSharedUptoRow.holds Try.pinned (OpenSpec.upto curveSharedSpec)

/-- 'dovecotelaw02.CurveChains', WHERE WHAT IT READS IS OF BULK AT MOST 1048576: true; the input reads as it did. -/
def curveChainsUptoRow : OpenClaim := { program := "ytdebfelgaiofeaa", sum := "79b1453028ef37fb8fb674393df24dcc4bf46976edf6ebbe4a50bc939eea033b", func := "dovecote/dovecotelaw02.CurveChains", spec := "curveChains", inPlace := ["math/bits.Add64", "math/bits.Sub64"], apart := false, narrowed := true }
def CurveChainsUptoSaid : Prop := curveChainsUptoRow.holds Try.pinned (OpenSpec.upto curveChainsSpec)

/-- 'dovecotelaw02.CurveAgree', WHERE WHAT IT READS IS OF BULK AT MOST 1048576: true; the input reads as it did. -/
def curveAgreeUptoRow : OpenClaim := { program := "ytdebfelgaiofeaa", sum := "79b1453028ef37fb8fb674393df24dcc4bf46976edf6ebbe4a50bc939eea033b", func := "dovecote/dovecotelaw02.CurveAgree", spec := "curveAgree", inPlace := ["math/bits.Add64", "math/bits.Sub64"], apart := false, narrowed := true }
def CurveAgreeUptoSaid : Prop := curveAgreeUptoRow.holds Try.pinned (OpenSpec.upto curveAgreeSpec)

/-- 'dovecotelaw02.CurveBits', WHERE WHAT IT READS IS OF BULK AT MOST 1048576: true; the input reads as it did. -/
def curveBitsUptoRow : OpenClaim := { program := "ytdebfelgaiofeaa", sum := "79b1453028ef37fb8fb674393df24dcc4bf46976edf6ebbe4a50bc939eea033b", func := "dovecote/dovecotelaw02.CurveBits", spec := "curveBits", inPlace := ["math/bits.Add64", "math/bits.Sub64"], apart := false, narrowed := true }
def CurveBitsUptoSaid : Prop := curveBitsUptoRow.holds Try.pinned (OpenSpec.upto curveBitsSpec)

/-- 'dovecotelaw02.CurveSteps', WHERE WHAT IT READS IS OF BULK AT MOST 1048576: true; the input reads as it did. -/
def curveStepsUptoRow : OpenClaim := { program := "ytdebfelgaiofeaa", sum := "79b1453028ef37fb8fb674393df24dcc4bf46976edf6ebbe4a50bc939eea033b", func := "dovecote/dovecotelaw02.CurveSteps", spec := "curveSteps", inPlace := ["math/bits.Add64", "math/bits.Sub64"], apart := false, narrowed := true }
def CurveStepsUptoSaid : Prop := curveStepsUptoRow.holds Try.pinned (OpenSpec.upto curveStepsSpec)

end Rows
end Go.Proofs.Ytdebfelgaiofeaa
