/-
  NARROWER THAN 'FOR EVERY INPUT', by the rows' own cells (each row's printed sentence says how): HeadKeys: laid · HeadMakes: laid · HeadPeels: laid · HeadWhole: laid · HeadTurned: laid · HeadAlike: laid.
  DERIVED. THE GIVEN ROWS OF THIS SEAT. 6 by the template 'for every input the law returns true; each argument reads behind the call as it read before'; 0 by the template 'total and deterministic' (their statements: YtckfplpiakbbdaaGreatDoorTotals.lean).
  GIVEN WITH THE SEED: the statements are not yours to turn. If you find one false, say at which input.
  Laid BY PROGRAM, IN A SANDBOX (cutbox-rows.mjs): the forced cells as the released guide's own fill.sh prints them over the translation f1a33d0fe6915deb… (all of the seat's roots in one cut). By AI agents, Wed Nov 11 2026. No macro, syntax, notation, axiom, sorry.
-/
import Derived.Test.YtckfplpiakbbdaaGreatDoorChecked
import GoSem.Claim
import GoSem.ClaimJoined
import GoSem.ClaimMapViews
import Derived.JoinedTies
import Derived.KernelRfl
namespace Go.Proofs.YtckfplpiakbbdaaGreatDoor
/- THE CELL 'sum', in the pinned program and in every row, IS THE sha256 OF THE DUMP (.gsa) THAT YtckfplpiakbbdaaGreatDoorProg.lean LOADS. Nothing in Lean hashes anything: it is a label: what it is worth is what the hold of that sum in a sandbox is worth. -/
noncomputable def Tryz.pinned : Pinned := { name := "ytckfplpiakbbdaagreatdoor", sum := "f1a33d0fe6915deb1263548d99a0da36fd6f82045dc7e505ca46236010bb279a", checked := Tryz.checked }
namespace Rows
def none {H : Type} : Left H := { results := [], args := [] }

/- WHAT THE LISTED PACKAGE-LEVEL VARIABLES READ AS WHEN THE CALL BEGINS. Each datum BY PROGRAM (the guide's laid-datum.mjs) off the statement by which the dump's own 'gosem.cut.vars' lays the variable. In a bare row this is a premise. The card (YtckfplpiakbbdaaGreatDoorCards.lean) ties it to the program's text. -/
def laid_dovecote_hash_constants {H : Type} : DataW H := .agg [.lit (.int .u32 1116352408), .lit (.int .u32 1899447441), .lit (.int .u32 3049323471), .lit (.int .u32 3921009573), .lit (.int .u32 961987163), .lit (.int .u32 1508970993), .lit (.int .u32 2453635748), .lit (.int .u32 2870763221), .lit (.int .u32 3624381080), .lit (.int .u32 310598401), .lit (.int .u32 607225278), .lit (.int .u32 1426881987), .lit (.int .u32 1925078388), .lit (.int .u32 2162078206), .lit (.int .u32 2614888103), .lit (.int .u32 3248222580), .lit (.int .u32 3835390401), .lit (.int .u32 4022224774), .lit (.int .u32 264347078), .lit (.int .u32 604807628), .lit (.int .u32 770255983), .lit (.int .u32 1249150122), .lit (.int .u32 1555081692), .lit (.int .u32 1996064986), .lit (.int .u32 2554220882), .lit (.int .u32 2821834349), .lit (.int .u32 2952996808), .lit (.int .u32 3210313671), .lit (.int .u32 3336571891), .lit (.int .u32 3584528711), .lit (.int .u32 113926993), .lit (.int .u32 338241895), .lit (.int .u32 666307205), .lit (.int .u32 773529912), .lit (.int .u32 1294757372), .lit (.int .u32 1396182291), .lit (.int .u32 1695183700), .lit (.int .u32 1986661051), .lit (.int .u32 2177026350), .lit (.int .u32 2456956037), .lit (.int .u32 2730485921), .lit (.int .u32 2820302411), .lit (.int .u32 3259730800), .lit (.int .u32 3345764771), .lit (.int .u32 3516065817), .lit (.int .u32 3600352804), .lit (.int .u32 4094571909), .lit (.int .u32 275423344), .lit (.int .u32 430227734), .lit (.int .u32 506948616), .lit (.int .u32 659060556), .lit (.int .u32 883997877), .lit (.int .u32 958139571), .lit (.int .u32 1322822218), .lit (.int .u32 1537002063), .lit (.int .u32 1747873779), .lit (.int .u32 1955562222), .lit (.int .u32 2024104815), .lit (.int .u32 2227730452), .lit (.int .u32 2361852424), .lit (.int .u32 2428436474), .lit (.int .u32 2756734187), .lit (.int .u32 3204031479), .lit (.int .u32 3329325298)]

/-- 'dovecotelaw08.HeadKeys': WHATEVER THE INPUT: true; the input reads as it did. -/
def headKeysSpec : ChangeSpec := { name := "headKeys", fn := fun _ => fun
  | [d] => { results := [.lit (.bool true)], args := [d] }
  | _ => none }
def headKeysRow : OpenClaim := { program := "ytckfplpiakbbdaagreatdoor", sum := "f1a33d0fe6915deb1263548d99a0da36fd6f82045dc7e505ca46236010bb279a", func := "dovecote/dovecotelaw08.HeadKeys", spec := "headKeys", inPlace := ["math/bits.Add64", "math/bits.Sub64", "internal/abi.NoEscape", "internal/bytealg.MakeNoZero"], named := ["dovecote/hash.constants"], apart := false, laid := [("dovecote/hash.constants", laid_dovecote_hash_constants)] }
def HeadKeysSaid : Prop := headKeysRow.holds Tryz.pinned (OpenSpec.ofChange headKeysSpec)

/-- ITS FALSE NEIGHBOUR: 'it returns false'. Refute it at one input. -/
def headKeysWrong : ChangeSpec := { name := "headKeys", fn := fun _ => fun
  | [d] => { results := [.lit (.bool false)], args := [d] }
  | _ => none }
def HeadKeysWrongFalsely : Prop := headKeysRow.holds Tryz.pinned (OpenSpec.ofChange headKeysWrong)

/-- 'dovecotelaw08.HeadMakes': WHATEVER THE INPUT: true; the input reads as it did. -/
def headMakesSpec : ChangeSpec := { name := "headMakes", fn := fun _ => fun
  | [d1, d2, d3] => { results := [.lit (.bool true)], args := [d1, d2, d3] }
  | _ => none }
def headMakesRow : OpenClaim := { program := "ytckfplpiakbbdaagreatdoor", sum := "f1a33d0fe6915deb1263548d99a0da36fd6f82045dc7e505ca46236010bb279a", func := "dovecote/dovecotelaw08.HeadMakes", spec := "headMakes", inPlace := ["math/bits.Add64", "math/bits.Sub64", "internal/abi.NoEscape", "internal/bytealg.MakeNoZero"], recurses := true, named := ["dovecote/hash.constants"], apart := false, laid := [("dovecote/hash.constants", laid_dovecote_hash_constants)] }
def HeadMakesSaid : Prop := headMakesRow.holds Tryz.pinned (OpenSpec.ofChange headMakesSpec)

/-- ITS FALSE NEIGHBOUR: 'it returns false'. Refute it at one input. -/
def headMakesWrong : ChangeSpec := { name := "headMakes", fn := fun _ => fun
  | [d1, d2, d3] => { results := [.lit (.bool false)], args := [d1, d2, d3] }
  | _ => none }
def HeadMakesWrongFalsely : Prop := headMakesRow.holds Tryz.pinned (OpenSpec.ofChange headMakesWrong)

/-- 'dovecotelaw08.HeadPeels': WHATEVER THE INPUT: true; the input reads as it did. -/
def headPeelsSpec : ChangeSpec := { name := "headPeels", fn := fun _ => fun
  | [d1, d2] => { results := [.lit (.bool true)], args := [d1, d2] }
  | _ => none }
def headPeelsRow : OpenClaim := { program := "ytckfplpiakbbdaagreatdoor", sum := "f1a33d0fe6915deb1263548d99a0da36fd6f82045dc7e505ca46236010bb279a", func := "dovecote/dovecotelaw08.HeadPeels", spec := "headPeels", inPlace := ["math/bits.Add64", "math/bits.Sub64", "internal/abi.NoEscape", "internal/bytealg.MakeNoZero"], named := ["dovecote/hash.constants"], apart := false, laid := [("dovecote/hash.constants", laid_dovecote_hash_constants)] }
def HeadPeelsSaid : Prop := headPeelsRow.holds Tryz.pinned (OpenSpec.ofChange headPeelsSpec)

/-- ITS FALSE NEIGHBOUR: 'it returns false'. Refute it at one input. -/
def headPeelsWrong : ChangeSpec := { name := "headPeels", fn := fun _ => fun
  | [d1, d2] => { results := [.lit (.bool false)], args := [d1, d2] }
  | _ => none }
def HeadPeelsWrongFalsely : Prop := headPeelsRow.holds Tryz.pinned (OpenSpec.ofChange headPeelsWrong)

/-- 'dovecotelaw08.HeadWhole': WHATEVER THE INPUT: true; the input reads as it did. -/
def headWholeSpec : ChangeSpec := { name := "headWhole", fn := fun _ => fun
  | [d1, d2, d3] => { results := [.lit (.bool true)], args := [d1, d2, d3] }
  | _ => none }
def headWholeRow : OpenClaim := { program := "ytckfplpiakbbdaagreatdoor", sum := "f1a33d0fe6915deb1263548d99a0da36fd6f82045dc7e505ca46236010bb279a", func := "dovecote/dovecotelaw08.HeadWhole", spec := "headWhole", inPlace := ["math/bits.Add64", "math/bits.Sub64", "internal/abi.NoEscape", "internal/bytealg.MakeNoZero"], named := ["dovecote/hash.constants"], apart := false, laid := [("dovecote/hash.constants", laid_dovecote_hash_constants)] }
def HeadWholeSaid : Prop := headWholeRow.holds Tryz.pinned (OpenSpec.ofChange headWholeSpec)

/-- ITS FALSE NEIGHBOUR: 'it returns false'. Refute it at one input. -/
def headWholeWrong : ChangeSpec := { name := "headWhole", fn := fun _ => fun
  | [d1, d2, d3] => { results := [.lit (.bool false)], args := [d1, d2, d3] }
  | _ => none }
def HeadWholeWrongFalsely : Prop := headWholeRow.holds Tryz.pinned (OpenSpec.ofChange headWholeWrong)

/-- 'dovecotelaw08.HeadTurned': WHATEVER THE INPUT: true; the input reads as it did. -/
def headTurnedSpec : ChangeSpec := { name := "headTurned", fn := fun _ => fun
  | [d1, d2, d3] => { results := [.lit (.bool true)], args := [d1, d2, d3] }
  | _ => none }
def headTurnedRow : OpenClaim := { program := "ytckfplpiakbbdaagreatdoor", sum := "f1a33d0fe6915deb1263548d99a0da36fd6f82045dc7e505ca46236010bb279a", func := "dovecote/dovecotelaw08.HeadTurned", spec := "headTurned", inPlace := ["math/bits.Add64", "math/bits.Sub64", "internal/abi.NoEscape", "internal/bytealg.MakeNoZero"], named := ["dovecote/hash.constants"], apart := false, laid := [("dovecote/hash.constants", laid_dovecote_hash_constants)] }
def HeadTurnedSaid : Prop := headTurnedRow.holds Tryz.pinned (OpenSpec.ofChange headTurnedSpec)

/-- ITS FALSE NEIGHBOUR: 'it returns false'. Refute it at one input. -/
def headTurnedWrong : ChangeSpec := { name := "headTurned", fn := fun _ => fun
  | [d1, d2, d3] => { results := [.lit (.bool false)], args := [d1, d2, d3] }
  | _ => none }
def HeadTurnedWrongFalsely : Prop := headTurnedRow.holds Tryz.pinned (OpenSpec.ofChange headTurnedWrong)

/-- 'dovecotelaw08.HeadAlike': WHATEVER THE INPUT: true; the input reads as it did. -/
def headAlikeSpec : ChangeSpec := { name := "headAlike", fn := fun _ => fun
  | [d1, d2, d3] => { results := [.lit (.bool true)], args := [d1, d2, d3] }
  | _ => none }
def headAlikeRow : OpenClaim := { program := "ytckfplpiakbbdaagreatdoor", sum := "f1a33d0fe6915deb1263548d99a0da36fd6f82045dc7e505ca46236010bb279a", func := "dovecote/dovecotelaw08.HeadAlike", spec := "headAlike", inPlace := ["math/bits.Add64", "math/bits.Sub64", "internal/abi.NoEscape", "internal/bytealg.MakeNoZero"], named := ["dovecote/hash.constants"], apart := false, laid := [("dovecote/hash.constants", laid_dovecote_hash_constants)] }
def HeadAlikeSaid : Prop := headAlikeRow.holds Tryz.pinned (OpenSpec.ofChange headAlikeSpec)

/-- ITS FALSE NEIGHBOUR: 'it returns false'. Refute it at one input. -/
def headAlikeWrong : ChangeSpec := { name := "headAlike", fn := fun _ => fun
  | [d1, d2, d3] => { results := [.lit (.bool false)], args := [d1, d2, d3] }
  | _ => none }
def HeadAlikeWrongFalsely : Prop := headAlikeRow.holds Tryz.pinned (OpenSpec.ofChange headAlikeWrong)

/- THE SECOND FORM. 'bulk': how many values and letters a reading holds, each counted each time it is reached (what is shared counts as often as it is met; a slice's spare places count too). A statement '..UptoSaid' is the law's where the arguments, and the package variables that the reading takes, are together of bulk at most 1048576: NARROWER than '..Said'. Prove '..Said' where nothing that the law and all that it calls make is longer than what came in: it says more and counts as full. Else prove '..UptoSaid'. A law counts once. -/
mutual
def uptoBulk {H : Type} : DataW H → Nat
  | .lit (.string bytes) => bytes.length + 1
  | .lit _ => 1
  | .nil => 1
  | .ptr d => uptoBulk d + 1
  | .slice elems spare => uptoBulkAll elems + uptoBulkAll spare + 1
  | .agg parts => uptoBulkAll parts + 1
  | .iface _ d => uptoBulk d + 1
  | .map entries => uptoBulkEntries entries + 1
  | .held _ => 1
def uptoBulkAll {H : Type} : List (DataW H) → Nat
  | [] => 0
  | d :: r => uptoBulk d + uptoBulkAll r
def uptoBulkEntries {H : Type} : List (Lit × DataW H) → Nat
  | [] => 0
  | x :: r => uptoBulkEntry x + uptoBulkEntries r
def uptoBulkEntry {H : Type} : Lit × DataW H → Nat
  | (.string bytes, d) => bytes.length + uptoBulk d + 1
  | (_, d) => uptoBulk d + 1
 end
def uptoSmall : (H : Type) → List (DataW H) → Bool := fun _ ds => decide (uptoBulkAll ds ≤ 1048576)
def OpenSpec.upto (s : _root_.Go.ChangeSpec) : _root_.Go.OpenSpec := { _root_.Go.OpenSpec.ofChange s with cond := some uptoSmall }

/-- 'dovecotelaw08.HeadKeys', WHERE WHAT IT READS IS OF BULK AT MOST 1048576: true; the input reads as it did. -/
def headKeysUptoRow : OpenClaim := { program := "ytckfplpiakbbdaagreatdoor", sum := "f1a33d0fe6915deb1263548d99a0da36fd6f82045dc7e505ca46236010bb279a", func := "dovecote/dovecotelaw08.HeadKeys", spec := "headKeys", inPlace := ["math/bits.Add64", "math/bits.Sub64", "internal/abi.NoEscape", "internal/bytealg.MakeNoZero"], named := ["dovecote/hash.constants"], apart := false, laid := [("dovecote/hash.constants", laid_dovecote_hash_constants)], narrowed := true }
def HeadKeysUptoSaid : Prop := headKeysUptoRow.holds Tryz.pinned (OpenSpec.upto headKeysSpec)

/-- 'dovecotelaw08.HeadMakes', WHERE WHAT IT READS IS OF BULK AT MOST 1048576: true; the input reads as it did. -/
def headMakesUptoRow : OpenClaim := { program := "ytckfplpiakbbdaagreatdoor", sum := "f1a33d0fe6915deb1263548d99a0da36fd6f82045dc7e505ca46236010bb279a", func := "dovecote/dovecotelaw08.HeadMakes", spec := "headMakes", inPlace := ["math/bits.Add64", "math/bits.Sub64", "internal/abi.NoEscape", "internal/bytealg.MakeNoZero"], recurses := true, named := ["dovecote/hash.constants"], apart := false, laid := [("dovecote/hash.constants", laid_dovecote_hash_constants)], narrowed := true }
def HeadMakesUptoSaid : Prop := headMakesUptoRow.holds Tryz.pinned (OpenSpec.upto headMakesSpec)

/-- 'dovecotelaw08.HeadPeels', WHERE WHAT IT READS IS OF BULK AT MOST 1048576: true; the input reads as it did. -/
def headPeelsUptoRow : OpenClaim := { program := "ytckfplpiakbbdaagreatdoor", sum := "f1a33d0fe6915deb1263548d99a0da36fd6f82045dc7e505ca46236010bb279a", func := "dovecote/dovecotelaw08.HeadPeels", spec := "headPeels", inPlace := ["math/bits.Add64", "math/bits.Sub64", "internal/abi.NoEscape", "internal/bytealg.MakeNoZero"], named := ["dovecote/hash.constants"], apart := false, laid := [("dovecote/hash.constants", laid_dovecote_hash_constants)], narrowed := true }
def HeadPeelsUptoSaid : Prop := headPeelsUptoRow.holds Tryz.pinned (OpenSpec.upto headPeelsSpec)

/-- 'dovecotelaw08.HeadWhole', WHERE WHAT IT READS IS OF BULK AT MOST 1048576: true; the input reads as it did. -/
def headWholeUptoRow : OpenClaim := { program := "ytckfplpiakbbdaagreatdoor", sum := "f1a33d0fe6915deb1263548d99a0da36fd6f82045dc7e505ca46236010bb279a", func := "dovecote/dovecotelaw08.HeadWhole", spec := "headWhole", inPlace := ["math/bits.Add64", "math/bits.Sub64", "internal/abi.NoEscape", "internal/bytealg.MakeNoZero"], named := ["dovecote/hash.constants"], apart := false, laid := [("dovecote/hash.constants", laid_dovecote_hash_constants)], narrowed := true }
def HeadWholeUptoSaid : Prop := headWholeUptoRow.holds Tryz.pinned (OpenSpec.upto headWholeSpec)

/-- 'dovecotelaw08.HeadTurned', WHERE WHAT IT READS IS OF BULK AT MOST 1048576: true; the input reads as it did. -/
def headTurnedUptoRow : OpenClaim := { program := "ytckfplpiakbbdaagreatdoor", sum := "f1a33d0fe6915deb1263548d99a0da36fd6f82045dc7e505ca46236010bb279a", func := "dovecote/dovecotelaw08.HeadTurned", spec := "headTurned", inPlace := ["math/bits.Add64", "math/bits.Sub64", "internal/abi.NoEscape", "internal/bytealg.MakeNoZero"], named := ["dovecote/hash.constants"], apart := false, laid := [("dovecote/hash.constants", laid_dovecote_hash_constants)], narrowed := true }
def HeadTurnedUptoSaid : Prop := headTurnedUptoRow.holds Tryz.pinned (OpenSpec.upto headTurnedSpec)

/-- 'dovecotelaw08.HeadAlike', WHERE WHAT IT READS IS OF BULK AT MOST 1048576: true; the input reads as it did. -/
def headAlikeUptoRow : OpenClaim := { program := "ytckfplpiakbbdaagreatdoor", sum := "f1a33d0fe6915deb1263548d99a0da36fd6f82045dc7e505ca46236010bb279a", func := "dovecote/dovecotelaw08.HeadAlike", spec := "headAlike", inPlace := ["math/bits.Add64", "math/bits.Sub64", "internal/abi.NoEscape", "internal/bytealg.MakeNoZero"], named := ["dovecote/hash.constants"], apart := false, laid := [("dovecote/hash.constants", laid_dovecote_hash_constants)], narrowed := true }
def HeadAlikeUptoSaid : Prop := headAlikeUptoRow.holds Tryz.pinned (OpenSpec.upto headAlikeSpec)

end Rows
end Go.Proofs.YtckfplpiakbbdaaGreatDoor
