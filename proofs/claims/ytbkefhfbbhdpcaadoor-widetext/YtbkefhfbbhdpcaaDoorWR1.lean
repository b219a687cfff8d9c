/- The document's wide blocks: keys, and what may be. -/
import Derived.Test.YtbkefhfbbhdpcaaDoorGD
import Derived.Test.YtbkefhfbbhdpcaaDoorGW
import Derived.Test.YtbkefhfbbhdpcaaDoorK1
namespace Go.Proofs.YtbkefhfbbhdpcaaDoor
open Go.RowKit Go.Proofs.Fd Go.Proofs.Hs Go.Proofs.Cc Go.Proofs.Wd
set_option maxRecDepth 20000

set_option maxHeartbeats 400000 in
theorem rKey_any (s l : ByteArray) (n : Nat) (hn : n ≤ 8160) (hs : Hid (s.size + 64 ≤ 140737488355328)) (hl : Hid (l.size + 97 ≤ 140737488355328)) (w : World) :
    Calls Tryd.prog 31 #[.string s, .string l, .int .i64 (n : Int)] w fun e w' => e = .returned (.string ⟨(drv s.data.toList l.data.toList n).toArray⟩) ∧ Below w.heap.size w w' := by
  have D : Hid (∀ w, Calls Tryd.prog 41 #[.string s, .string l, .int .i64 (n : Int)] w fun e w' => e = .returned (.tuple #[.string ⟨(drv s.data.toList l.data.toList n).toArray⟩, .int .i64 0]) ∧ Below w.heap.size w w') := rDerive_ok s l n hn hs hl
  generalize (⟨(drv s.data.toList l.data.toList n).toArray⟩ : ByteArray) = X at *
  go_enter Tryd.func31, Tryd.ntmps31
  go_wp2_with fail
  refine Calls.mono (D.out _) ?_
  rintro e w1 ⟨rfl, hb⟩
  go_wp2
  go_ret
  exact ⟨rfl, hb⟩
/-- What is wrong with a block's length. -/
def wmay (n : Int) : Int := if n < 64 then 3 else if 8192 < n then 2 else 0
theorem wmay_form (n : Int) (h : n < 64) : wmay n = 3 := if_pos h
theorem wmay_long (n : Int) (h : 8192 < n) : wmay n = 2 := by unfold wmay; rw [if_neg (by omega), if_pos h]
theorem wmay_ok (n : Int) (h1 : 64 ≤ n) (h2 : n ≤ 8192) : wmay n = 0 := by unfold wmay; rw [if_neg (by omega), if_neg (by omega)]
theorem wmay_zero (n : Int) (h : wmay n = 0) : 64 ≤ n ∧ n ≤ 8192 := by
  unfold wmay at h
  split at h
  · exact absurd h (by decide)
  · split at h
    · exact absurd h (by decide)
    · omega

set_option maxHeartbeats 400000 in
theorem rwmay_any (n : Int) (w : World) :
    Calls Tryd.prog 22 #[.int .i64 n] w fun e w' => e = .returned (.int .i64 (wmay n)) ∧ w' = w := by
  by_cases h1 : n < 64
  · have E : Hid (wmay n = 3) := wmay_form n h1
    go_enter Tryd.func22, Tryd.ntmps22
    go_wp2
    go_ret
    exact ⟨by rw [E.out]; rfl, rfl⟩
  · have g1 : 64 ≤ n := by omega
    by_cases h2 : 8192 < n
    · have E : Hid (wmay n = 2) := wmay_long n h2
      go_enter Tryd.func22, Tryd.ntmps22
      go_wp2
      go_ret
      exact ⟨by rw [E.out]; rfl, rfl⟩
    · have E : Hid (wmay n = 0) := wmay_ok n g1 (by omega)
      go_enter Tryd.func22, Tryd.ntmps22
      go_wp2
      go_ret
      exact ⟨by rw [E.out]; rfl, rfl⟩
end Go.Proofs.YtbkefhfbbhdpcaaDoor
