/-
  NARROWER THAN 'FOR EVERY INPUT', by the rows' own cells (each row's printed sentence says how): MixPlays: laid · MixRefuses: laid · MixOnce: laid · MixPool: laid · TopHops: laid.
  DERIVED. THE GIVEN ROWS OF THIS SEAT. 5 by the template 'for every input the law returns true; each argument reads behind the call as it read before'; 0 by the template 'total and deterministic' (their statements: YtjcppbhgjchjaaaGreatDoorTotals.lean).
  GIVEN WITH THE SEED: the statements are not yours to turn. If you find one false, say at which input.
  Laid BY PROGRAM, IN A SANDBOX (cutbox-rows.mjs): the forced cells as the released guide's own fill.sh prints them over the translation 5d816d2f58885d2d… (all of the seat's roots in one cut). By AI agents, Wed Nov 11 2026. No macro, syntax, notation, axiom, sorry.
-/
import Derived.Test.YtjcppbhgjchjaaaGreatDoorChecked
import GoSem.Claim
import GoSem.ClaimJoined
import GoSem.ClaimMapViews
import Derived.JoinedTies
import Derived.KernelRfl
namespace Go.Proofs.YtjcppbhgjchjaaaGreatDoor
/- THE CELL 'sum', in the pinned program and in every row, IS THE sha256 OF THE DUMP (.gsa) THAT YtjcppbhgjchjaaaGreatDoorProg.lean LOADS. Nothing in Lean hashes anything: it is a label: what it is worth is what the hold of that sum in a sandbox is worth. -/
noncomputable def Tryz.pinned : Pinned := { name := "ytjcppbhgjchjaaagreatdoor", sum := "5d816d2f58885d2d1c2a417a9682a23a9a1bbfab0cfa096c5fb7d9f370aa50d1", checked := Tryz.checked }
namespace Rows
def none {H : Type} : Left H := { results := [], args := [] }

/- WHAT THE LISTED PACKAGE-LEVEL VARIABLES READ AS WHEN THE CALL BEGINS. Each datum BY PROGRAM (the guide's laid-datum.mjs) off the statement by which the dump's own 'gosem.cut.vars' lays the variable. In a bare row this is a premise. The card (YtjcppbhgjchjaaaGreatDoorCards.lean) ties it to the program's text. -/
def laid_dovecote_hash_constants {H : Type} : DataW H := .agg [.lit (.int .u32 1116352408), .lit (.int .u32 1899447441), .lit (.int .u32 3049323471), .lit (.int .u32 3921009573), .lit (.int .u32 961987163), .lit (.int .u32 1508970993), .lit (.int .u32 2453635748), .lit (.int .u32 2870763221), .lit (.int .u32 3624381080), .lit (.int .u32 310598401), .lit (.int .u32 607225278), .lit (.int .u32 1426881987), .lit (.int .u32 1925078388), .lit (.int .u32 2162078206), .lit (.int .u32 2614888103), .lit (.int .u32 3248222580), .lit (.int .u32 3835390401), .lit (.int .u32 4022224774), .lit (.int .u32 264347078), .lit (.int .u32 604807628), .lit (.int .u32 770255983), .lit (.int .u32 1249150122), .lit (.int .u32 1555081692), .lit (.int .u32 1996064986), .lit (.int .u32 2554220882), .lit (.int .u32 2821834349), .lit (.int .u32 2952996808), .lit (.int .u32 3210313671), .lit (.int .u32 3336571891), .lit (.int .u32 3584528711), .lit (.int .u32 113926993), .lit (.int .u32 338241895), .lit (.int .u32 666307205), .lit (.int .u32 773529912), .lit (.int .u32 1294757372), .lit (.int .u32 1396182291), .lit (.int .u32 1695183700), .lit (.int .u32 1986661051), .lit (.int .u32 2177026350), .lit (.int .u32 2456956037), .lit (.int .u32 2730485921), .lit (.int .u32 2820302411), .lit (.int .u32 3259730800), .lit (.int .u32 3345764771), .lit (.int .u32 3516065817), .lit (.int .u32 3600352804), .lit (.int .u32 4094571909), .lit (.int .u32 275423344), .lit (.int .u32 430227734), .lit (.int .u32 506948616), .lit (.int .u32 659060556), .lit (.int .u32 883997877), .lit (.int .u32 958139571), .lit (.int .u32 1322822218), .lit (.int .u32 1537002063), .lit (.int .u32 1747873779), .lit (.int .u32 1955562222), .lit (.int .u32 2024104815), .lit (.int .u32 2227730452), .lit (.int .u32 2361852424), .lit (.int .u32 2428436474), .lit (.int .u32 2756734187), .lit (.int .u32 3204031479), .lit (.int .u32 3329325298)]

/-- 'dovecotelaw19.MixPlays': WHATEVER THE INPUT: true; the input reads as it did. -/
def mixPlaysSpec : ChangeSpec := { name := "mixPlays", fn := fun _ => fun
  | [d1, d2, d3] => { results := [.lit (.bool true)], args := [d1, d2, d3] }
  | _ => none }
def mixPlaysRow : OpenClaim := { program := "ytjcppbhgjchjaaagreatdoor", sum := "5d816d2f58885d2d1c2a417a9682a23a9a1bbfab0cfa096c5fb7d9f370aa50d1", func := "dovecote/dovecotelaw19.MixPlays", spec := "mixPlays", inPlace := ["internal/abi.NoEscape", "internal/bytealg.MakeNoZero", "math/bits.Add64", "math/bits.Sub64"], unfollowed := true, recurses := true, named := ["dovecote/hash.constants"], apart := false, laid := [("dovecote/hash.constants", laid_dovecote_hash_constants)] }
def MixPlaysSaid : Prop := mixPlaysRow.holds Tryz.pinned (OpenSpec.ofChange mixPlaysSpec)

/-- ITS FALSE NEIGHBOUR: 'it returns false'. Refute it at one input. -/
def mixPlaysWrong : ChangeSpec := { name := "mixPlays", fn := fun _ => fun
  | [d1, d2, d3] => { results := [.lit (.bool false)], args := [d1, d2, d3] }
  | _ => none }
def MixPlaysWrongFalsely : Prop := mixPlaysRow.holds Tryz.pinned (OpenSpec.ofChange mixPlaysWrong)

/-- 'dovecotelaw19.MixRefuses': WHATEVER THE INPUT: true; the input reads as it did. -/
def mixRefusesSpec : ChangeSpec := { name := "mixRefuses", fn := fun _ => fun
  | [d1, d2] => { results := [.lit (.bool true)], args := [d1, d2] }
  | _ => none }
def mixRefusesRow : OpenClaim := { program := "ytjcppbhgjchjaaagreatdoor", sum := "5d816d2f58885d2d1c2a417a9682a23a9a1bbfab0cfa096c5fb7d9f370aa50d1", func := "dovecote/dovecotelaw19.MixRefuses", spec := "mixRefuses", inPlace := ["internal/abi.NoEscape", "internal/bytealg.MakeNoZero", "math/bits.Add64", "math/bits.Sub64"], unfollowed := true, recurses := true, named := ["dovecote/hash.constants"], apart := false, laid := [("dovecote/hash.constants", laid_dovecote_hash_constants)] }
def MixRefusesSaid : Prop := mixRefusesRow.holds Tryz.pinned (OpenSpec.ofChange mixRefusesSpec)

/-- ITS FALSE NEIGHBOUR: 'it returns false'. Refute it at one input. -/
def mixRefusesWrong : ChangeSpec := { name := "mixRefuses", fn := fun _ => fun
  | [d1, d2] => { results := [.lit (.bool false)], args := [d1, d2] }
  | _ => none }
def MixRefusesWrongFalsely : Prop := mixRefusesRow.holds Tryz.pinned (OpenSpec.ofChange mixRefusesWrong)

/-- 'dovecotelaw19.MixOnce': WHATEVER THE INPUT: true; the input reads as it did. -/
def mixOnceSpec : ChangeSpec := { name := "mixOnce", fn := fun _ => fun
  | [d] => { results := [.lit (.bool true)], args := [d] }
  | _ => none }
def mixOnceRow : OpenClaim := { program := "ytjcppbhgjchjaaagreatdoor", sum := "5d816d2f58885d2d1c2a417a9682a23a9a1bbfab0cfa096c5fb7d9f370aa50d1", func := "dovecote/dovecotelaw19.MixOnce", spec := "mixOnce", inPlace := ["internal/abi.NoEscape", "internal/bytealg.MakeNoZero", "math/bits.Add64", "math/bits.Sub64"], unfollowed := true, recurses := true, named := ["dovecote/hash.constants"], apart := false, laid := [("dovecote/hash.constants", laid_dovecote_hash_constants)] }
def MixOnceSaid : Prop := mixOnceRow.holds Tryz.pinned (OpenSpec.ofChange mixOnceSpec)

/-- ITS FALSE NEIGHBOUR: 'it returns false'. Refute it at one input. -/
def mixOnceWrong : ChangeSpec := { name := "mixOnce", fn := fun _ => fun
  | [d] => { results := [.lit (.bool false)], args := [d] }
  | _ => none }
def MixOnceWrongFalsely : Prop := mixOnceRow.holds Tryz.pinned (OpenSpec.ofChange mixOnceWrong)

/-- 'dovecotelaw19.MixPool': WHATEVER THE INPUT: true; the input reads as it did. -/
def mixPoolSpec : ChangeSpec := { name := "mixPool", fn := fun _ => fun
  | [d1, d2] => { results := [.lit (.bool true)], args := [d1, d2] }
  | _ => none }
def mixPoolRow : OpenClaim := { program := "ytjcppbhgjchjaaagreatdoor", sum := "5d816d2f58885d2d1c2a417a9682a23a9a1bbfab0cfa096c5fb7d9f370aa50d1", func := "dovecote/dovecotelaw19.MixPool", spec := "mixPool", inPlace := ["internal/abi.NoEscape", "internal/bytealg.MakeNoZero", "math/bits.Add64", "math/bits.Sub64"], unfollowed := true, recurses := true, named := ["dovecote/hash.constants"], apart := false, laid := [("dovecote/hash.constants", laid_dovecote_hash_constants)] }
def MixPoolSaid : Prop := mixPoolRow.holds Tryz.pinned (OpenSpec.ofChange mixPoolSpec)

/-- ITS FALSE NEIGHBOUR: 'it returns false'. Refute it at one input. -/
def mixPoolWrong : ChangeSpec := { name := "mixPool", fn := fun _ => fun
  | [d1, d2] => { results := [.lit (.bool false)], args := [d1, d2] }
  | _ => none }
def MixPoolWrongFalsely : Prop := mixPoolRow.holds Tryz.pinned (OpenSpec.ofChange mixPoolWrong)

/-- 'dovecotetop.TopHops': WHATEVER THE INPUT: true; the input reads as it did. -/
def topHopsSpec : ChangeSpec := { name := "topHops", fn := fun _ => fun
  | [d1, d2, d3] => { results := [.lit (.bool true)], args := [d1, d2, d3] }
  | _ => none }
def topHopsRow : OpenClaim := { program := "ytjcppbhgjchjaaagreatdoor", sum := "5d816d2f58885d2d1c2a417a9682a23a9a1bbfab0cfa096c5fb7d9f370aa50d1", func := "dovecote/dovecotetop.TopHops", spec := "topHops", inPlace := ["internal/abi.NoEscape", "internal/bytealg.MakeNoZero", "math/bits.Add64", "math/bits.Sub64"], unfollowed := true, recurses := true, named := ["dovecote/hash.constants"], apart := false, laid := [("dovecote/hash.constants", laid_dovecote_hash_constants)] }
def TopHopsSaid : Prop := topHopsRow.holds Tryz.pinned (OpenSpec.ofChange topHopsSpec)

/-- ITS FALSE NEIGHBOUR: 'it returns false'. Refute it at one input. -/
def topHopsWrong : ChangeSpec := { name := "topHops", fn := fun _ => fun
  | [d1, d2, d3] => { results := [.lit (.bool false)], args := [d1, d2, d3] }
  | _ => none }
def TopHopsWrongFalsely : Prop := topHopsRow.holds Tryz.pinned (OpenSpec.ofChange topHopsWrong)

/- THE SECOND FORM. 'bulk': how many values and letters a reading holds, each counted each time it is reached (what is shared counts as often as it is met; a slice's spare places count too). A statement '..UptoSaid' is the law's where the arguments, and the package variables that the reading takes, are together of bulk at most 1048576: NARROWER than '..Said'. Prove '..Said' where nothing that the law and all that it calls make is longer than what came in: it says more and counts as full. Else prove '..UptoSaid'. A law counts once. -/
mutual
def uptoBulk {H : Type} : DataW H → Nat
  | .lit (.string bytes) => bytes.length + 1
  | .lit _ => 1
  | .nil => 1
  | .ptr d => uptoBulk d + 1
  | .slice elems spare => uptoBulkAll elems + uptoBulkAll spare + 1
  | .agg parts => uptoBulkAll parts + 1
  | .iface _ d => uptoBulk d + 1
  | .map entries => uptoBulkEntries entries + 1
  | .held _ => 1
def uptoBulkAll {H : Type} : List (DataW H) → Nat
  | [] => 0
  | d :: r => uptoBulk d + uptoBulkAll r
def uptoBulkEntries {H : Type} : List (Lit × DataW H) → Nat
  | [] => 0
  | x :: r => uptoBulkEntry x + uptoBulkEntries r
def uptoBulkEntry {H : Type} : Lit × DataW H → Nat
  | (.string bytes, d) => bytes.length + uptoBulk d + 1
  | (_, d) => uptoBulk d + 1
 end
def uptoSmall : (H : Type) → List (DataW H) → Bool := fun _ ds => decide (uptoBulkAll ds ≤ 1048576)
def OpenSpec.upto (s : _root_.Go.ChangeSpec) : _root_.Go.OpenSpec := { _root_.Go.OpenSpec.ofChange s with cond := some uptoSmall }

/-- 'dovecotelaw19.MixPlays', WHERE WHAT IT READS IS OF BULK AT MOST 1048576: true; the input reads as it did. -/
def mixPlaysUptoRow : OpenClaim := { program := "ytjcppbhgjchjaaagreatdoor", sum := "5d816d2f58885d2d1c2a417a9682a23a9a1bbfab0cfa096c5fb7d9f370aa50d1", func := "dovecote/dovecotelaw19.MixPlays", spec := "mixPlays", inPlace := ["internal/abi.NoEscape", "internal/bytealg.MakeNoZero", "math/bits.Add64", "math/bits.Sub64"], unfollowed := true, recurses := true, named := ["dovecote/hash.constants"], apart := false, laid := [("dovecote/hash.constants", laid_dovecote_hash_constants)], narrowed := true }
def MixPlaysUptoSaid : Prop := mixPlaysUptoRow.holds Tryz.pinned (OpenSpec.upto mixPlaysSpec)

/-- 'dovecotelaw19.MixRefuses', WHERE WHAT IT READS IS OF BULK AT MOST 1048576: true; the input reads as it did. -/
def mixRefusesUptoRow : OpenClaim := { program := "ytjcppbhgjchjaaagreatdoor", sum := "5d816d2f58885d2d1c2a417a9682a23a9a1bbfab0cfa096c5fb7d9f370aa50d1", func := "dovecote/dovecotelaw19.MixRefuses", spec := "mixRefuses", inPlace := ["internal/abi.NoEscape", "internal/bytealg.MakeNoZero", "math/bits.Add64", "math/bits.Sub64"], unfollowed := true, recurses := true, named := ["dovecote/hash.constants"], apart := false, laid := [("dovecote/hash.constants", laid_dovecote_hash_constants)], narrowed := true }
def MixRefusesUptoSaid : Prop := mixRefusesUptoRow.holds Tryz.pinned (OpenSpec.upto mixRefusesSpec)

/-- 'dovecotelaw19.MixOnce', WHERE WHAT IT READS IS OF BULK AT MOST 1048576: true; the input reads as it did. -/
def mixOnceUptoRow : OpenClaim := { program := "ytjcppbhgjchjaaagreatdoor", sum := "5d816d2f58885d2d1c2a417a9682a23a9a1bbfab0cfa096c5fb7d9f370aa50d1", func := "dovecote/dovecotelaw19.MixOnce", spec := "mixOnce", inPlace := ["internal/abi.NoEscape", "internal/bytealg.MakeNoZero", "math/bits.Add64", "math/bits.Sub64"], unfollowed := true, recurses := true, named := ["dovecote/hash.constants"], apart := false, laid := [("dovecote/hash.constants", laid_dovecote_hash_constants)], narrowed := true }
def MixOnceUptoSaid : Prop := mixOnceUptoRow.holds Tryz.pinned (OpenSpec.upto mixOnceSpec)

/-- 'dovecotelaw19.MixPool', WHERE WHAT IT READS IS OF BULK AT MOST 1048576: true; the input reads as it did. -/
def mixPoolUptoRow : OpenClaim := { program := "ytjcppbhgjchjaaagreatdoor", sum := "5d816d2f58885d2d1c2a417a9682a23a9a1bbfab0cfa096c5fb7d9f370aa50d1", func := "dovecote/dovecotelaw19.MixPool", spec := "mixPool", inPlace := ["internal/abi.NoEscape", "internal/bytealg.MakeNoZero", "math/bits.Add64", "math/bits.Sub64"], unfollowed := true, recurses := true, named := ["dovecote/hash.constants"], apart := false, laid := [("dovecote/hash.constants", laid_dovecote_hash_constants)], narrowed := true }
def MixPoolUptoSaid : Prop := mixPoolUptoRow.holds Tryz.pinned (OpenSpec.upto mixPoolSpec)

/-- 'dovecotetop.TopHops', WHERE WHAT IT READS IS OF BULK AT MOST 1048576: true; the input reads as it did. -/
def topHopsUptoRow : OpenClaim := { program := "ytjcppbhgjchjaaagreatdoor", sum := "5d816d2f58885d2d1c2a417a9682a23a9a1bbfab0cfa096c5fb7d9f370aa50d1", func := "dovecote/dovecotetop.TopHops", spec := "topHops", inPlace := ["internal/abi.NoEscape", "internal/bytealg.MakeNoZero", "math/bits.Add64", "math/bits.Sub64"], unfollowed := true, recurses := true, named := ["dovecote/hash.constants"], apart := false, laid := [("dovecote/hash.constants", laid_dovecote_hash_constants)], narrowed := true }
def TopHopsUptoSaid : Prop := topHopsUptoRow.holds Tryz.pinned (OpenSpec.upto topHopsSpec)

end Rows
end Go.Proofs.YtjcppbhgjchjaaaGreatDoor
