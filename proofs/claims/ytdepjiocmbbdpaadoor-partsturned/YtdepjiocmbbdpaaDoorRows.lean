/-
  NARROWER THAN 'FOR EVERY INPUT', by the rows' own cells (each row's printed sentence says how): PartsCut: laid · PartsJoin: laid · PartsWhole: laid · PartsFit: laid · PartsMixed: laid · PartsTurned: laid.
  DERIVED. THE GIVEN ROWS OF THIS SEAT. 6 by the template 'for every input the law returns true; each argument reads behind the call as it read before'; 0 by the template 'total and deterministic' (their statements: YtdepjiocmbbdpaaDoorTotals.lean).
  GIVEN WITH THE SEED: the statements are not yours to turn. If you find one false, say at which input.
  Laid BY PROGRAM, IN A SANDBOX (cutbox-rows.mjs): the forced cells as the released guide's own fill.sh prints them over the translation 0e02866b5d0f4bdb… (all of the seat's roots in one cut). By AI agents, Wed Nov 11 2026. No macro, syntax, notation, axiom, sorry.
-/
import Derived.Test.YtdepjiocmbbdpaaDoorChecked
import GoSem.Claim
import GoSem.ClaimJoined
import GoSem.ClaimMapViews
import Derived.JoinedTies
import Derived.KernelRfl
namespace Go.Proofs.YtdepjiocmbbdpaaDoor
/- THE CELL 'sum', in the pinned program and in every row, IS THE sha256 OF THE DUMP (.gsa) THAT YtdepjiocmbbdpaaDoorProg.lean LOADS. Nothing in Lean hashes anything: it is a label: what it is worth is what the hold of that sum in a sandbox is worth. -/
noncomputable def Tryd.pinned : Pinned := { name := "ytdepjiocmbbdpaadoor", sum := "0e02866b5d0f4bdbbf7dadb486c197ff8c7ceccef20f16648ba8b6c9d1b5e581", checked := Tryd.checked }
namespace Rows
def none {H : Type} : Left H := { results := [], args := [] }

/- WHAT THE LISTED PACKAGE-LEVEL VARIABLES READ AS WHEN THE CALL BEGINS. Each datum BY PROGRAM (the guide's laid-datum.mjs) off the statement by which the dump's own 'gosem.cut.vars' lays the variable. In a bare row this is a premise. The card (YtdepjiocmbbdpaaDoorCards.lean) ties it to the program's text. -/
def laid_dovecote_hash_constants {H : Type} : DataW H := .agg [.lit (.int .u32 1116352408), .lit (.int .u32 1899447441), .lit (.int .u32 3049323471), .lit (.int .u32 3921009573), .lit (.int .u32 961987163), .lit (.int .u32 1508970993), .lit (.int .u32 2453635748), .lit (.int .u32 2870763221), .lit (.int .u32 3624381080), .lit (.int .u32 310598401), .lit (.int .u32 607225278), .lit (.int .u32 1426881987), .lit (.int .u32 1925078388), .lit (.int .u32 2162078206), .lit (.int .u32 2614888103), .lit (.int .u32 3248222580), .lit (.int .u32 3835390401), .lit (.int .u32 4022224774), .lit (.int .u32 264347078), .lit (.int .u32 604807628), .lit (.int .u32 770255983), .lit (.int .u32 1249150122), .lit (.int .u32 1555081692), .lit (.int .u32 1996064986), .lit (.int .u32 2554220882), .lit (.int .u32 2821834349), .lit (.int .u32 2952996808), .lit (.int .u32 3210313671), .lit (.int .u32 3336571891), .lit (.int .u32 3584528711), .lit (.int .u32 113926993), .lit (.int .u32 338241895), .lit (.int .u32 666307205), .lit (.int .u32 773529912), .lit (.int .u32 1294757372), .lit (.int .u32 1396182291), .lit (.int .u32 1695183700), .lit (.int .u32 1986661051), .lit (.int .u32 2177026350), .lit (.int .u32 2456956037), .lit (.int .u32 2730485921), .lit (.int .u32 2820302411), .lit (.int .u32 3259730800), .lit (.int .u32 3345764771), .lit (.int .u32 3516065817), .lit (.int .u32 3600352804), .lit (.int .u32 4094571909), .lit (.int .u32 275423344), .lit (.int .u32 430227734), .lit (.int .u32 506948616), .lit (.int .u32 659060556), .lit (.int .u32 883997877), .lit (.int .u32 958139571), .lit (.int .u32 1322822218), .lit (.int .u32 1537002063), .lit (.int .u32 1747873779), .lit (.int .u32 1955562222), .lit (.int .u32 2024104815), .lit (.int .u32 2227730452), .lit (.int .u32 2361852424), .lit (.int .u32 2428436474), .lit (.int .u32 2756734187), .lit (.int .u32 3204031479), .lit (.int .u32 3329325298)]

/-- 'dovecotelaw22.PartsCut': WHATEVER THE INPUT: true; the input reads as it did. -/
def partsCutSpec : ChangeSpec := { name := "partsCut", fn := fun _ => fun
  | [d1, d2] => { results := [.lit (.bool true)], args := [d1, d2] }
  | _ => none }
def partsCutRow : OpenClaim := { program := "ytdepjiocmbbdpaadoor", sum := "0e02866b5d0f4bdbbf7dadb486c197ff8c7ceccef20f16648ba8b6c9d1b5e581", func := "dovecote/dovecotelaw22.PartsCut", spec := "partsCut", inPlace := ["internal/abi.NoEscape", "internal/bytealg.MakeNoZero"], unfollowed := true, recurses := true, named := ["dovecote/hash.constants"], apart := false, laid := [("dovecote/hash.constants", laid_dovecote_hash_constants)] }
def PartsCutSaid : Prop := partsCutRow.holds Tryd.pinned (OpenSpec.ofChange partsCutSpec)

/-- ITS FALSE NEIGHBOUR: 'it returns false'. Refute it at one input. -/
def partsCutWrong : ChangeSpec := { name := "partsCut", fn := fun _ => fun
  | [d1, d2] => { results := [.lit (.bool false)], args := [d1, d2] }
  | _ => none }
def PartsCutWrongFalsely : Prop := partsCutRow.holds Tryd.pinned (OpenSpec.ofChange partsCutWrong)

/-- 'dovecotelaw22.PartsJoin': WHATEVER THE INPUT: true; the input reads as it did. -/
def partsJoinSpec : ChangeSpec := { name := "partsJoin", fn := fun _ => fun
  | [d1, d2, d3] => { results := [.lit (.bool true)], args := [d1, d2, d3] }
  | _ => none }
def partsJoinRow : OpenClaim := { program := "ytdepjiocmbbdpaadoor", sum := "0e02866b5d0f4bdbbf7dadb486c197ff8c7ceccef20f16648ba8b6c9d1b5e581", func := "dovecote/dovecotelaw22.PartsJoin", spec := "partsJoin", inPlace := ["internal/abi.NoEscape", "internal/bytealg.MakeNoZero"], unfollowed := true, recurses := true, named := ["dovecote/hash.constants"], apart := false, laid := [("dovecote/hash.constants", laid_dovecote_hash_constants)] }
def PartsJoinSaid : Prop := partsJoinRow.holds Tryd.pinned (OpenSpec.ofChange partsJoinSpec)

/-- ITS FALSE NEIGHBOUR: 'it returns false'. Refute it at one input. -/
def partsJoinWrong : ChangeSpec := { name := "partsJoin", fn := fun _ => fun
  | [d1, d2, d3] => { results := [.lit (.bool false)], args := [d1, d2, d3] }
  | _ => none }
def PartsJoinWrongFalsely : Prop := partsJoinRow.holds Tryd.pinned (OpenSpec.ofChange partsJoinWrong)

/-- 'dovecotelaw22.PartsWhole': WHATEVER THE INPUT: true; the input reads as it did. -/
def partsWholeSpec : ChangeSpec := { name := "partsWhole", fn := fun _ => fun
  | [d1, d2, d3] => { results := [.lit (.bool true)], args := [d1, d2, d3] }
  | _ => none }
def partsWholeRow : OpenClaim := { program := "ytdepjiocmbbdpaadoor", sum := "0e02866b5d0f4bdbbf7dadb486c197ff8c7ceccef20f16648ba8b6c9d1b5e581", func := "dovecote/dovecotelaw22.PartsWhole", spec := "partsWhole", inPlace := ["internal/abi.NoEscape", "internal/bytealg.MakeNoZero"], unfollowed := true, recurses := true, named := ["dovecote/hash.constants"], apart := false, laid := [("dovecote/hash.constants", laid_dovecote_hash_constants)] }
def PartsWholeSaid : Prop := partsWholeRow.holds Tryd.pinned (OpenSpec.ofChange partsWholeSpec)

/-- ITS FALSE NEIGHBOUR: 'it returns false'. Refute it at one input. -/
def partsWholeWrong : ChangeSpec := { name := "partsWhole", fn := fun _ => fun
  | [d1, d2, d3] => { results := [.lit (.bool false)], args := [d1, d2, d3] }
  | _ => none }
def PartsWholeWrongFalsely : Prop := partsWholeRow.holds Tryd.pinned (OpenSpec.ofChange partsWholeWrong)

/-- 'dovecotelaw22.PartsFit': WHATEVER THE INPUT: true; the input reads as it did. -/
def partsFitSpec : ChangeSpec := { name := "partsFit", fn := fun _ => fun
  | [d1, d2] => { results := [.lit (.bool true)], args := [d1, d2] }
  | _ => none }
def partsFitRow : OpenClaim := { program := "ytdepjiocmbbdpaadoor", sum := "0e02866b5d0f4bdbbf7dadb486c197ff8c7ceccef20f16648ba8b6c9d1b5e581", func := "dovecote/dovecotelaw22.PartsFit", spec := "partsFit", inPlace := ["internal/abi.NoEscape", "internal/bytealg.MakeNoZero"], unfollowed := true, recurses := true, named := ["dovecote/hash.constants"], apart := false, laid := [("dovecote/hash.constants", laid_dovecote_hash_constants)] }
def PartsFitSaid : Prop := partsFitRow.holds Tryd.pinned (OpenSpec.ofChange partsFitSpec)

/-- ITS FALSE NEIGHBOUR: 'it returns false'. Refute it at one input. -/
def partsFitWrong : ChangeSpec := { name := "partsFit", fn := fun _ => fun
  | [d1, d2] => { results := [.lit (.bool false)], args := [d1, d2] }
  | _ => none }
def PartsFitWrongFalsely : Prop := partsFitRow.holds Tryd.pinned (OpenSpec.ofChange partsFitWrong)

/-- 'dovecotelaw22.PartsMixed': WHATEVER THE INPUT: true; the input reads as it did. -/
def partsMixedSpec : ChangeSpec := { name := "partsMixed", fn := fun _ => fun
  | [d1, d2, d3] => { results := [.lit (.bool true)], args := [d1, d2, d3] }
  | _ => none }
def partsMixedRow : OpenClaim := { program := "ytdepjiocmbbdpaadoor", sum := "0e02866b5d0f4bdbbf7dadb486c197ff8c7ceccef20f16648ba8b6c9d1b5e581", func := "dovecote/dovecotelaw22.PartsMixed", spec := "partsMixed", inPlace := ["internal/abi.NoEscape", "internal/bytealg.MakeNoZero"], unfollowed := true, recurses := true, named := ["dovecote/hash.constants"], apart := false, laid := [("dovecote/hash.constants", laid_dovecote_hash_constants)] }
def PartsMixedSaid : Prop := partsMixedRow.holds Tryd.pinned (OpenSpec.ofChange partsMixedSpec)

/-- ITS FALSE NEIGHBOUR: 'it returns false'. Refute it at one input. -/
def partsMixedWrong : ChangeSpec := { name := "partsMixed", fn := fun _ => fun
  | [d1, d2, d3] => { results := [.lit (.bool false)], args := [d1, d2, d3] }
  | _ => none }
def PartsMixedWrongFalsely : Prop := partsMixedRow.holds Tryd.pinned (OpenSpec.ofChange partsMixedWrong)

/-- 'dovecotelaw22.PartsTurned': WHATEVER THE INPUT: true; the input reads as it did. -/
def partsTurnedSpec : ChangeSpec := { name := "partsTurned", fn := fun _ => fun
  | [d1, d2] => { results := [.lit (.bool true)], args := [d1, d2] }
  | _ => none }
def partsTurnedRow : OpenClaim := { program := "ytdepjiocmbbdpaadoor", sum := "0e02866b5d0f4bdbbf7dadb486c197ff8c7ceccef20f16648ba8b6c9d1b5e581", func := "dovecote/dovecotelaw22.PartsTurned", spec := "partsTurned", inPlace := ["internal/abi.NoEscape", "internal/bytealg.MakeNoZero"], unfollowed := true, recurses := true, named := ["dovecote/hash.constants"], apart := false, laid := [("dovecote/hash.constants", laid_dovecote_hash_constants)] }
def PartsTurnedSaid : Prop := partsTurnedRow.holds Tryd.pinned (OpenSpec.ofChange partsTurnedSpec)

/-- ITS FALSE NEIGHBOUR: 'it returns false'. Refute it at one input. -/
def partsTurnedWrong : ChangeSpec := { name := "partsTurned", fn := fun _ => fun
  | [d1, d2] => { results := [.lit (.bool false)], args := [d1, d2] }
  | _ => none }
def PartsTurnedWrongFalsely : Prop := partsTurnedRow.holds Tryd.pinned (OpenSpec.ofChange partsTurnedWrong)

/- THE SECOND FORM. 'bulk': how many values and letters a reading holds, each counted each time it is reached (what is shared counts as often as it is met; a slice's spare places count too). A statement '..UptoSaid' is the law's where the arguments, and the package variables that the reading takes, are together of bulk at most 1048576: NARROWER than '..Said'. Prove '..Said' where nothing that the law and all that it calls make is longer than what came in: it says more and counts as full. Else prove '..UptoSaid'. A law counts once. -/
mutual
def uptoBulk {H : Type} : DataW H → Nat
  | .lit (.string bytes) => bytes.length + 1
  | .lit _ => 1
  | .nil => 1
  | .ptr d => uptoBulk d + 1
  | .slice elems spare => uptoBulkAll elems + uptoBulkAll spare + 1
  | .agg parts => uptoBulkAll parts + 1
  | .iface _ d => uptoBulk d + 1
  | .map entries => uptoBulkEntries entries + 1
  | .held _ => 1
def uptoBulkAll {H : Type} : List (DataW H) → Nat
  | [] => 0
  | d :: r => uptoBulk d + uptoBulkAll r
def uptoBulkEntries {H : Type} : List (Lit × DataW H) → Nat
  | [] => 0
  | x :: r => uptoBulkEntry x + uptoBulkEntries r
def uptoBulkEntry {H : Type} : Lit × DataW H → Nat
  | (.string bytes, d) => bytes.length + uptoBulk d + 1
  | (_, d) => uptoBulk d + 1
 end
def uptoSmall : (H : Type) → List (DataW H) → Bool := fun _ ds => decide (uptoBulkAll ds ≤ 1048576)
def OpenSpec.upto (s : _root_.Go.ChangeSpec) : _root_.Go.OpenSpec := { _root_.Go.OpenSpec.ofChange s with cond := some uptoSmall }

/-- 'dovecotelaw22.PartsCut', WHERE WHAT IT READS IS OF BULK AT MOST 1048576: true; the input reads as it did. -/
def partsCutUptoRow : OpenClaim := { program := "ytdepjiocmbbdpaadoor", sum := "0e02866b5d0f4bdbbf7dadb486c197ff8c7ceccef20f16648ba8b6c9d1b5e581", func := "dovecote/dovecotelaw22.PartsCut", spec := "partsCut", inPlace := ["internal/abi.NoEscape", "internal/bytealg.MakeNoZero"], unfollowed := true, recurses := true, named := ["dovecote/hash.constants"], apart := false, laid := [("dovecote/hash.constants", laid_dovecote_hash_constants)], narrowed := true }
def PartsCutUptoSaid : Prop := partsCutUptoRow.holds Tryd.pinned (OpenSpec.upto partsCutSpec)

/-- 'dovecotelaw22.PartsJoin', WHERE WHAT IT READS IS OF BULK AT MOST 1048576: true; the input reads as it did. -/
def partsJoinUptoRow : OpenClaim := { program := "ytdepjiocmbbdpaadoor", sum := "0e02866b5d0f4bdbbf7dadb486c197ff8c7ceccef20f16648ba8b6c9d1b5e581", func := "dovecote/dovecotelaw22.PartsJoin", spec := "partsJoin", inPlace := ["internal/abi.NoEscape", "internal/bytealg.MakeNoZero"], unfollowed := true, recurses := true, named := ["dovecote/hash.constants"], apart := false, laid := [("dovecote/hash.constants", laid_dovecote_hash_constants)], narrowed := true }
def PartsJoinUptoSaid : Prop := partsJoinUptoRow.holds Tryd.pinned (OpenSpec.upto partsJoinSpec)

/-- 'dovecotelaw22.PartsWhole', WHERE WHAT IT READS IS OF BULK AT MOST 1048576: true; the input reads as it did. -/
def partsWholeUptoRow : OpenClaim := { program := "ytdepjiocmbbdpaadoor", sum := "0e02866b5d0f4bdbbf7dadb486c197ff8c7ceccef20f16648ba8b6c9d1b5e581", func := "dovecote/dovecotelaw22.PartsWhole", spec := "partsWhole", inPlace := ["internal/abi.NoEscape", "internal/bytealg.MakeNoZero"], unfollowed := true, recurses := true, named := ["dovecote/hash.constants"], apart := false, laid := [("dovecote/hash.constants", laid_dovecote_hash_constants)], narrowed := true }
def PartsWholeUptoSaid : Prop := partsWholeUptoRow.holds Tryd.pinned (OpenSpec.upto partsWholeSpec)

/-- 'dovecotelaw22.PartsFit', WHERE WHAT IT READS IS OF BULK AT MOST 1048576: true; the input reads as it did. -/
def partsFitUptoRow : OpenClaim := { program := "ytdepjiocmbbdpaadoor", sum := "0e02866b5d0f4bdbbf7dadb486c197ff8c7ceccef20f16648ba8b6c9d1b5e581", func := "dovecote/dovecotelaw22.PartsFit", spec := "partsFit", inPlace := ["internal/abi.NoEscape", "internal/bytealg.MakeNoZero"], unfollowed := true, recurses := true, named := ["dovecote/hash.constants"], apart := false, laid := [("dovecote/hash.constants", laid_dovecote_hash_constants)], narrowed := true }
def PartsFitUptoSaid : Prop := partsFitUptoRow.holds Tryd.pinned (OpenSpec.upto partsFitSpec)

/-- 'dovecotelaw22.PartsMixed', WHERE WHAT IT READS IS OF BULK AT MOST 1048576: true; the input reads as it did. -/
def partsMixedUptoRow : OpenClaim := { program := "ytdepjiocmbbdpaadoor", sum := "0e02866b5d0f4bdbbf7dadb486c197ff8c7ceccef20f16648ba8b6c9d1b5e581", func := "dovecote/dovecotelaw22.PartsMixed", spec := "partsMixed", inPlace := ["internal/abi.NoEscape", "internal/bytealg.MakeNoZero"], unfollowed := true, recurses := true, named := ["dovecote/hash.constants"], apart := false, laid := [("dovecote/hash.constants", laid_dovecote_hash_constants)], narrowed := true }
def PartsMixedUptoSaid : Prop := partsMixedUptoRow.holds Tryd.pinned (OpenSpec.upto partsMixedSpec)

/-- 'dovecotelaw22.PartsTurned', WHERE WHAT IT READS IS OF BULK AT MOST 1048576: true; the input reads as it did. -/
def partsTurnedUptoRow : OpenClaim := { program := "ytdepjiocmbbdpaadoor", sum := "0e02866b5d0f4bdbbf7dadb486c197ff8c7ceccef20f16648ba8b6c9d1b5e581", func := "dovecote/dovecotelaw22.PartsTurned", spec := "partsTurned", inPlace := ["internal/abi.NoEscape", "internal/bytealg.MakeNoZero"], unfollowed := true, recurses := true, named := ["dovecote/hash.constants"], apart := false, laid := [("dovecote/hash.constants", laid_dovecote_hash_constants)], narrowed := true }
def PartsTurnedUptoSaid : Prop := partsTurnedUptoRow.holds Tryd.pinned (OpenSpec.upto partsTurnedSpec)

end Rows
end Go.Proofs.YtdepjiocmbbdpaaDoor
