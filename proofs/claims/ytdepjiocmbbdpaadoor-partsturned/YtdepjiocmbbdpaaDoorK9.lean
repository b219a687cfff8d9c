/- Short digests. -/
import Derived.Test.YtdepjiocmbbdpaaDoorK8
namespace Go.Proofs.YtdepjiocmbbdpaaDoor
open Go.RowKit Go.Proofs.Fd Go.Proofs.Hs

/-- The digest of strings. -/
def shs (ks : List ByteArray) : ByteArray := ⟨(sha (ks.flatMap fun s => s.data.toList)).toArray⟩
theorem shs_size (ks : List ByteArray) : (shs ks).size = 32 := rfl
theorem strAt1 {w : World} {B : Nat} {x : ByteArray} (h0 : w.cell? ⟨B, 0, none⟩ = some (.string x)) : StrAt w (some ⟨B, 0, none⟩) [x] := fun i hi => by
  refine ⟨B, 0, rfl, ?_⟩
  obtain rfl : i = 0 := by simp at hi; omega
  exact h0

set_option maxHeartbeats 1000000 in
theorem Short_ok (m : Nat) (h1 : 1 ≤ m) (h2 : m ≤ 32) (a : Option Addr) (ks : List ByteArray) (n cap : Nat) (hn : Hid (ks.length = n)) (hn63 : n < 9223372036854775807) (w : World) (hk : Hid (Kh w)) (hc : Hid (StrAt w a ks)) (hs : Hid (∀ s ∈ ks, s.size < 9223372036854775807)) :
    Calls Tryd.prog 34 #[.int .i64 (m : Int), .slice a n cap] w fun e w' => e = .returned (.tuple #[.string ((shs ks).extract 0 m), .int .i64 0]) ∧ Below w.heap.size w w' := by
  have SM : Hid (∀ w, Kh w → StrAt w a ks → Calls Tryd.prog 46 #[.slice a n cap] w fun e w' => e = .returned (.string (shs ks)) ∧ Below w.heap.size w w') := fun w h h3 => Sum_any a ks n cap hn hn63 w h.1 h.2 h3 hs
  have hz := shs_size ks
  generalize shs ks = S at *
  have g1 : (1 : Int) ≤ (m : Int) := by omega
  have g2 : (m : Int) ≤ 32 := by omega
  have g3 : ¬ (m : Int) < 1 := by omega
  have g4 : ¬ (32 : Int) < (m : Int) := by omega
  have g5 : (m : Int) ≤ (S.size : Int) := by omega
  clear hn63 h1 h2
  go_enter Tryd.func34, Tryd.ntmps34
  go_wp2_with fail
  refine Calls.mono (SM.out _ hk.out hc.out) ?_
  rintro e w1 ⟨rfl, hb⟩
  have B1 : Hid (Below w.heap.size w w1) := hb
  clear hb
  go_wp2
  go_ret2
  exact ⟨rfl, B1.out⟩

theorem Short_no (m : Int) (h : m < 1 ∨ 32 < m) (v : Value) (w : World) :
    Calls Tryd.prog 34 #[.int .i64 m, v] w fun e w' => e = .returned (.tuple #[.string ⟨#[]⟩, .int .i64 1]) ∧ Below w.heap.size w w' := by
  by_cases h1 : m < 1
  · go_enter Tryd.func34, Tryd.ntmps34
    go_wp2
    go_ret2
    exact ⟨rfl, Below.refl _ _⟩
  · have h2 : 32 < m := by omega
    clear h
    go_enter Tryd.func34, Tryd.ntmps34
    go_wp2
    go_ret2
    exact ⟨rfl, Below.refl _ _⟩
end Go.Proofs.YtdepjiocmbbdpaaDoor
