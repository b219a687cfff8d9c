/- The program's stream: its three calls. -/
import Derived.Test.YtpnpllklmdjbaaaST5
namespace Go.Proofs.Ytpnpllklmdjbaaa
open Go.RowKit Go.Proofs.Fd Go.Proofs.Hs Go.Proofs.Cc

/-- What is wrong with a key, a nonce, a counter. -/
def merr (k n : ByteArray) (c : Int) : Int := if k.size ≠ 32 ∨ n.size ≠ 12 then 3 else if c < 0 ∨ 4294967295 < c then 1 else 0
theorem merr_form (k n : ByteArray) (c : Int) (h : k.size ≠ 32 ∨ n.size ≠ 12) : merr k n c = 3 := if_pos h
theorem merr_range (k n : ByteArray) (c : Int) (h1 : k.size = 32) (h2 : n.size = 12) (h : c < 0 ∨ 4294967295 < c) : merr k n c = 1 := by
  unfold merr; rw [if_neg (by omega), if_pos h]
theorem merr_ok (k n : ByteArray) (c : Int) (h1 : k.size = 32) (h2 : n.size = 12) (h3 : 0 ≤ c) (h4 : c ≤ 4294967295) : merr k n c = 0 := by
  unfold merr; rw [if_neg (by omega), if_neg (by omega)]
theorem merr_zero (k n : ByteArray) (c : Int) (h : merr k n c = 0) : k.size = 32 ∧ n.size = 12 ∧ 0 ≤ c ∧ c ≤ 4294967295 := by
  unfold merr at h
  split at h
  · exact absurd h (by decide)
  · split at h
    · exact absurd h (by decide)
    · omega

set_option maxHeartbeats 400000 in
theorem swrong_any (k n : ByteArray) (c : Int) (w : World) :
    Calls Try.prog 17 #[.string k, .string n, .int .i64 c] w fun e w' => e = .returned (.int .i64 (merr k n c)) ∧ w' = w := by
  by_cases h1 : k.size = 32
  · have g1 : (k.size : Int) = 32 := by omega
    by_cases h2 : n.size = 12
    · have g2 : (n.size : Int) = 12 := by omega
      by_cases h3 : c < 0
      · have E : Hid (merr k n c = 1) := merr_range k n c h1 h2 (.inl h3)
        clear h1 h2
        go_enter Try.func17, Try.ntmps17
        go_wp2
        go_ret
        exact ⟨by rw [E.out]; rfl, rfl⟩
      · have g3 : 0 ≤ c := by omega
        by_cases h4 : 4294967295 < c
        · have E : Hid (merr k n c = 1) := merr_range k n c h1 h2 (.inr h4)
          clear h1 h2
          go_enter Try.func17, Try.ntmps17
          go_wp2
          go_ret
          exact ⟨by rw [E.out]; rfl, rfl⟩
        · have E : Hid (merr k n c = 0) := merr_ok k n c h1 h2 g3 (by omega)
          clear h1 h2
          go_enter Try.func17, Try.ntmps17
          go_wp2
          go_ret
          exact ⟨by rw [E.out]; rfl, rfl⟩
    · have g2 : ¬ (n.size : Int) = 12 := by omega
      have E : Hid (merr k n c = 3) := merr_form k n c (.inr h2)
      clear h1
      go_enter Try.func17, Try.ntmps17
      go_wp2
      go_ret
      exact ⟨by rw [E.out]; rfl, rfl⟩
  · have g1 : ¬ (k.size : Int) = 32 := by omega
    have E : Hid (merr k n c = 3) := merr_form k n c (.inl h1)
    go_enter Try.func17, Try.ntmps17
    go_wp2
    go_ret
    exact ⟨by rw [E.out]; rfl, rfl⟩

set_option maxHeartbeats 400000 in
theorem sBlock_no (k n : ByteArray) (c : Int) (h : merr k n c ≠ 0) (w : World) :
    Calls Try.prog 9 #[.string k, .string n, .int .i64 c] w fun e w' => e = .returned (.tuple #[.string ⟨#[]⟩, .int .i64 (merr k n c)]) ∧ Below w.heap.size w w' := by
  have WR : Hid (∀ w, Calls Try.prog 17 #[.string k, .string n, .int .i64 c] w fun e w' => e = .returned (.int .i64 (merr k n c)) ∧ w' = w) := swrong_any k n c
  generalize merr k n c = m at *
  go_enter Try.func9, Try.ntmps9
  go_wp2_with fail
  refine Calls.mono (WR.out _) ?_
  rintro e w1 ⟨rfl, rfl⟩
  go_wp2
  go_ret2
  exact ⟨rfl, Below.refl _ _⟩
set_option maxHeartbeats 400000 in
theorem sXor_no (k n : ByteArray) (c : Int) (t : ByteArray) (h : merr k n c ≠ 0) (w : World) :
    Calls Try.prog 12 #[.string k, .string n, .int .i64 c, .string t] w fun e w' => e = .returned (.tuple #[.string ⟨#[]⟩, .int .i64 (merr k n c)]) ∧ Below w.heap.size w w' := by
  have WR : Hid (∀ w, Calls Try.prog 17 #[.string k, .string n, .int .i64 c] w fun e w' => e = .returned (.int .i64 (merr k n c)) ∧ w' = w) := swrong_any k n c
  generalize merr k n c = m at *
  go_enter Try.func12, Try.ntmps12
  go_wp2_with fail
  refine Calls.mono (WR.out _) ?_
  rintro e w1 ⟨rfl, rfl⟩
  go_wp2
  go_ret2
  exact ⟨rfl, Below.refl _ _⟩
set_option maxHeartbeats 400000 in
theorem sXor_long (k n : ByteArray) (c : Int) (t : ByteArray) (h : merr k n c = 0) (ht : 65536 < t.size) (w : World) :
    Calls Try.prog 12 #[.string k, .string n, .int .i64 c, .string t] w fun e w' => e = .returned (.tuple #[.string ⟨#[]⟩, .int .i64 2]) ∧ Below w.heap.size w w' := by
  have WR : Hid (∀ w, Calls Try.prog 17 #[.string k, .string n, .int .i64 c] w fun e w' => e = .returned (.int .i64 0) ∧ w' = w) := by
    have := swrong_any k n c; rw [h] at this; exact this
  have ht' : (65536 : Int) < (t.size : Int) := by omega
  clear h
  go_enter Try.func12, Try.ntmps12
  go_wp2_with fail
  refine Calls.mono (WR.out _) ?_
  rintro e w1 ⟨rfl, rfl⟩
  go_wp2
  go_ret2
  exact ⟨rfl, Below.refl _ _⟩
set_option maxHeartbeats 400000 in
theorem sBytes_no (k n : ByteArray) (m : Int) (h : merr k n 0 ≠ 0) (w : World) :
    Calls Try.prog 14 #[.string k, .string n, .int .i64 m] w fun e w' => e = .returned (.tuple #[.string ⟨#[]⟩, .int .i64 (merr k n 0)]) ∧ Below w.heap.size w w' := by
  have WR : Hid (∀ w, Calls Try.prog 17 #[.string k, .string n, .int .i64 0] w fun e w' => e = .returned (.int .i64 (merr k n 0)) ∧ w' = w) := swrong_any k n 0
  generalize merr k n 0 = m at *
  go_enter Try.func14, Try.ntmps14
  go_wp2_with fail
  refine Calls.mono (WR.out _) ?_
  rintro e w1 ⟨rfl, rfl⟩
  go_wp2
  go_ret2
  exact ⟨rfl, Below.refl _ _⟩
set_option maxHeartbeats 400000 in
theorem sBytes_range (k n : ByteArray) (m : Int) (h : merr k n 0 = 0) (hm : m < 0 ∨ 65536 < m) (w : World) :
    Calls Try.prog 14 #[.string k, .string n, .int .i64 m] w fun e w' => e = .returned (.tuple #[.string ⟨#[]⟩, .int .i64 1]) ∧ Below w.heap.size w w' := by
  have WR : Hid (∀ w, Calls Try.prog 17 #[.string k, .string n, .int .i64 0] w fun e w' => e = .returned (.int .i64 0) ∧ w' = w) := by
    have := swrong_any k n 0; rw [h] at this; exact this
  clear h
  rcases hm with hm | hm
  · go_enter Try.func14, Try.ntmps14
    go_wp2_with fail
    refine Calls.mono (WR.out _) ?_
    rintro e w1 ⟨rfl, rfl⟩
    go_wp2
    go_ret2
    exact ⟨rfl, Below.refl _ _⟩
  · have hm' : ¬ m < 0 := by omega
    go_enter Try.func14, Try.ntmps14
    go_wp2_with fail
    refine Calls.mono (WR.out _) ?_
    rintro e w1 ⟨rfl, rfl⟩
    go_wp2
    go_ret2
    exact ⟨rfl, Below.refl _ _⟩
end Go.Proofs.Ytpnpllklmdjbaaa
