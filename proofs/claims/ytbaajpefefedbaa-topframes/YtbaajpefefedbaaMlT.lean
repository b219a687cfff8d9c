/- The document's Check. -/
import Derived.Test.YtbaajpefefedbaaMlT1
import Derived.Test.YtbaajpefefedbaaMlT2
import Derived.Test.YtbaajpefefedbaaMlT3
import Derived.Test.YtbaajpefefedbaaMlT4
import Derived.Test.YtbaajpefefedbaaMlT5
namespace Go.Proofs.Ytbaajpefefedbaa
open Go.RowKit Go.Proofs.Fd Go.Proofs.Ml
set_option maxRecDepth 20000

theorem rcheck_any (k u q : Int) (t g : ByteArray) (a : Option Addr) (n c : Nat) (a2 : Option Addr) (n2 c2 : Nat) (ss : List Sl) (is : List ByteArray) (w : World) (L : Hid (Lists w a n c a2 n2 c2 ss is)) :
    Calls Try.prog 12 #[mv k u q t g a n c a2 n2 c2] w fun e w' => e = .returned (.int .i64 (chkE (okB ⟨k, u, q, t, g, ss, is⟩))) ∧ Below w.heap.size w w' := by
  by_cases h1 : k = 1
  · exact rcheck_1 k u q t g a n c a2 n2 c2 ss is w L h1
  by_cases h2 : k = 2
  · exact rcheck_2 k u q t g a n c a2 n2 c2 ss is w L h2
  by_cases h3 : k = 3
  · exact rcheck_3 k u q t g a n c a2 n2 c2 ss is w L h3
  by_cases h4 : k = 4
  · exact rcheck_4 k u q t g a n c a2 n2 c2 ss is w L h4
  exact rcheck_5 k u q t g a n c a2 n2 c2 ss is w L h1 h2 h3 h4
end Go.Proofs.Ytbaajpefefedbaa
