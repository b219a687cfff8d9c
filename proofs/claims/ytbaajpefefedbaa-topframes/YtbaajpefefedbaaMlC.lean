/- The program's small functions. -/
import Derived.Test.YtbaajpefefedbaaMlB
namespace Go.Proofs.Ytbaajpefefedbaa
open Go.RowKit Go.Proofs.Fd Go.Proofs.Ml
set_option maxRecDepth 20000

def nmB (u q : Int) : Bool := decide (0 ≤ u) && decide (u < 64) && decide (1 ≤ q) && decide (q ≤ 2147483647)
def smB (t g : ByteArray) (n n2 : Nat) (T G S I : Nat) : Bool := decide (t.size = T) && decide (g.size = G) && decide (n = S) && decide (n2 ≤ I)
set_option maxHeartbeats 1000000 in
theorem numbered_any (k u q : Int) (t g : ByteArray) (a : Option Addr) (n c : Nat) (a2 : Option Addr) (n2 c2 : Nat) (w : World) :
    Calls Try.prog 41 #[mv k u q t g a n c a2 n2 c2] w fun e w' => e = .returned (.bool (nmB u q)) ∧ Below w.heap.size w w' := by
  unfold nmB
  by_cases h1 : 0 ≤ u
  rotate_left
  · rw [decide_eq_false h1]
    go_enter Try.func41, Try.ntmps41
    go_wp2
    go_ret
    exact ⟨by simp, (Below.refl _ _).alloc (Nat.le_refl _) _⟩
  rw [decide_eq_true h1]
  by_cases h2 : u < 64
  rotate_left
  · rw [decide_eq_false h2]
    go_enter Try.func41, Try.ntmps41
    go_wp2
    go_ret
    exact ⟨by simp, (Below.refl _ _).alloc (Nat.le_refl _) _⟩
  rw [decide_eq_true h2]
  by_cases h3 : 1 ≤ q
  rotate_left
  · rw [decide_eq_false h3]
    go_enter Try.func41, Try.ntmps41
    go_wp2
    go_ret
    exact ⟨by simp, (Below.refl _ _).alloc (Nat.le_refl _) _⟩
  rw [decide_eq_true h3]
  by_cases h4 : q ≤ 2147483647
  rotate_left
  · rw [decide_eq_false h4]
    go_enter Try.func41, Try.ntmps41
    go_wp2
    go_ret
    exact ⟨by simp, (Below.refl _ _).alloc (Nat.le_refl _) _⟩
  rw [decide_eq_true h4]
  go_enter Try.func41, Try.ntmps41
  go_wp2
  go_ret
  exact ⟨by simp, (Below.refl _ _).alloc (Nat.le_refl _) _⟩
set_option maxHeartbeats 1000000 in
theorem sized_any (T G S I : Nat) (k u q : Int) (t g : ByteArray) (a : Option Addr) (n c : Nat) (a2 : Option Addr) (n2 c2 : Nat) (w : World) :
    Calls Try.prog 40 #[mv k u q t g a n c a2 n2 c2, .int .i64 (T : Int), .int .i64 (G : Int), .int .i64 (S : Int), .int .i64 (I : Int)] w fun e w' => e = .returned (.bool (smB t g n n2 T G S I)) ∧ Below w.heap.size w w' := by
  unfold smB
  by_cases h1 : t.size = T
  rotate_left
  · rw [decide_eq_false h1]
    have z1 : ¬ (t.size : Int) = (T : Int) := by omega
    go_enter Try.func40, Try.ntmps40
    go_wp2
    go_ret
    exact ⟨by simp, (Below.refl _ _).alloc (Nat.le_refl _) _⟩
  rw [decide_eq_true h1]
  by_cases h2 : g.size = G
  rotate_left
  · rw [decide_eq_false h2]
    have z2 : ¬ (g.size : Int) = (G : Int) := by omega
    go_enter Try.func40, Try.ntmps40
    go_wp2
    go_ret
    exact ⟨by simp, (Below.refl _ _).alloc (Nat.le_refl _) _⟩
  rw [decide_eq_true h2]
  by_cases h3 : n = S
  rotate_left
  · rw [decide_eq_false h3]
    have z3 : ¬ (n : Int) = (S : Int) := by omega
    go_enter Try.func40, Try.ntmps40
    go_wp2
    go_ret
    exact ⟨by simp, (Below.refl _ _).alloc (Nat.le_refl _) _⟩
  rw [decide_eq_true h3]
  by_cases h4 : n2 ≤ I
  rotate_left
  · rw [decide_eq_false h4]
    have z4 : ¬ (n2 : Int) ≤ (I : Int) := by omega
    go_enter Try.func40, Try.ntmps40
    go_wp2
    go_ret
    exact ⟨by simp, (Below.refl _ _).alloc (Nat.le_refl _) _⟩
  rw [decide_eq_true h4]
  have z4 : (n2 : Int) ≤ (I : Int) := by omega
  go_enter Try.func40, Try.ntmps40
  go_wp2
  go_ret
  exact ⟨by simp, (Below.refl _ _).alloc (Nat.le_refl _) _⟩
end Go.Proofs.Ytbaajpefefedbaa
