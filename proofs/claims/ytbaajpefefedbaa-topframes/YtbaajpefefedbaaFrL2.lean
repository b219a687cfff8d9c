/- FrameJoins: the frames of two lists are those of the one, and behind them those of the other. -/
import Derived.Test.YtbaajpefefedbaaFrS
namespace Go.Proofs.Ytbaajpefefedbaa
open Go.RowKit Go.Proofs.Fd Go.Proofs.Fr
set_option maxRecDepth 20000

def fitB (ks : List ByteArray) : Bool := ks.all fun s => decide (s.size ≤ 4096)
theorem fitB_iff (ks : List ByteArray) : fitB ks = true ↔ fits ks := by
  unfold fitB fits
  rw [List.all_eq_true]
  exact ⟨fun h s hs => of_decide_eq_true (h s hs), fun h s hs => decide_eq_true (h s hs)⟩
theorem fitB_app (a b : List ByteArray) : fitB (a ++ b) = (fitB a && fitB b) := by unfold fitB; rw [List.all_append]
theorem frs_app (a b : List ByteArray) : frs (a ++ b) = frs a ++ frs b := by unfold frs; rw [List.flatMap_append]
def ofS (ks : List ByteArray) : ByteArray := if fitB ks = true then ⟨(frs ks).toArray⟩ else ⟨#[]⟩
def ofE (ks : List ByteArray) : Int := if fitB ks = true then 0 else 2
theorem of_yes {ks : List ByteArray} (h : fitB ks = true) : ofS ks = ⟨(frs ks).toArray⟩ ∧ ofE ks = 0 := ⟨if_pos h, if_pos h⟩
theorem of_not {ks : List ByteArray} (h : fitB ks = false) : ofS ks = ⟨#[]⟩ ∧ ofE ks = 2 := ⟨if_neg (by rw [h]; simp), if_neg (by rw [h]; simp)⟩
theorem Of_all (a : Option Addr) (ks : List ByteArray) (n cap : Nat) (hn : ks.length = n) (hn63 : n < 9223372036854775807) (hz : (frs ks).length ≤ 140737488355328) (w : World) (hc : StrAt w a ks) :
    Calls Try.prog 20 #[.slice a n cap] w fun e w' => e = .returned (.tuple #[.string (ofS ks), .int .i64 (ofE ks)]) ∧ Below w.heap.size w w' := by
  by_cases h : fitB ks = true
  · rw [(of_yes h).1, (of_yes h).2]
    exact Of_ok a ks n cap hn hn63 ((fitB_iff ks).1 h) hz w hc
  · have h' : fitB ks = false := by simpa using h
    rw [(of_not h').1, (of_not h').2]
    exact Of_no a ks n cap hn hn63 (fun z => h ((fitB_iff ks).2 z)) w hc
end Go.Proofs.Ytbaajpefefedbaa
