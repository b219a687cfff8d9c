/- The document's stream: its three calls. -/
import Derived.Test.YtpnpllklmdjbaaaSD2
namespace Go.Proofs.Ytpnpllklmdjbaaa
open Go.RowKit Go.Proofs.Fd Go.Proofs.Hs Go.Proofs.Cc

set_option maxHeartbeats 400000 in
theorem rmay_any (k n : ByteArray) (c : Int) (w : World) :
    Calls Try.prog 20 #[.string k, .string n, .int .i64 c] w fun e w' => e = .returned (.int .i64 (merr k n c)) ∧ w' = w := by
  by_cases h1 : k.size = 32
  · have g1 : (k.size : Int) = 32 := by omega
    by_cases h2 : n.size = 12
    · have g2 : (n.size : Int) = 12 := by omega
      by_cases h3 : c < 0
      · have E : Hid (merr k n c = 1) := merr_range k n c h1 h2 (.inl h3)
        clear h1 h2
        go_enter Try.func20, Try.ntmps20
        go_wp2
        go_ret
        exact ⟨by rw [E.out]; rfl, rfl⟩
      · have g3 : 0 ≤ c := by omega
        by_cases h4 : 4294967295 < c
        · have E : Hid (merr k n c = 1) := merr_range k n c h1 h2 (.inr h4)
          clear h1 h2
          go_enter Try.func20, Try.ntmps20
          go_wp2
          go_ret
          exact ⟨by rw [E.out]; rfl, rfl⟩
        · have E : Hid (merr k n c = 0) := merr_ok k n c h1 h2 g3 (by omega)
          clear h1 h2
          go_enter Try.func20, Try.ntmps20
          go_wp2
          go_ret
          exact ⟨by rw [E.out]; rfl, rfl⟩
    · have g2 : ¬ (n.size : Int) = 12 := by omega
      have E : Hid (merr k n c = 3) := merr_form k n c (.inr h2)
      clear h1
      go_enter Try.func20, Try.ntmps20
      go_wp2
      go_ret
      exact ⟨by rw [E.out]; rfl, rfl⟩
  · have g1 : ¬ (k.size : Int) = 32 := by omega
    have E : Hid (merr k n c = 3) := merr_form k n c (.inl h1)
    go_enter Try.func20, Try.ntmps20
    go_wp2
    go_ret
    exact ⟨by rw [E.out]; rfl, rfl⟩

set_option maxHeartbeats 400000 in
theorem rBlock_no (k n : ByteArray) (c : Int) (h : merr k n c ≠ 0) (w : World) :
    Calls Try.prog 10 #[.string k, .string n, .int .i64 c] w fun e w' => e = .returned (.tuple #[.string ⟨#[]⟩, .int .i64 (merr k n c)]) ∧ Below w.heap.size w w' := by
  have WR : Hid (∀ w, Calls Try.prog 20 #[.string k, .string n, .int .i64 c] w fun e w' => e = .returned (.int .i64 (merr k n c)) ∧ w' = w) := rmay_any k n c
  generalize merr k n c = m at *
  go_enter Try.func10, Try.ntmps10
  go_wp2_with fail
  refine Calls.mono (WR.out _) ?_
  rintro e w1 ⟨rfl, rfl⟩
  go_wp2
  go_ret2
  exact ⟨rfl, Below.refl _ _⟩
set_option maxHeartbeats 400000 in
theorem rXor_no (k n : ByteArray) (c : Int) (t : ByteArray) (h : merr k n c ≠ 0) (w : World) :
    Calls Try.prog 13 #[.string k, .string n, .int .i64 c, .string t] w fun e w' => e = .returned (.tuple #[.string ⟨#[]⟩, .int .i64 (merr k n c)]) ∧ Below w.heap.size w w' := by
  have WR : Hid (∀ w, Calls Try.prog 20 #[.string k, .string n, .int .i64 c] w fun e w' => e = .returned (.int .i64 (merr k n c)) ∧ w' = w) := rmay_any k n c
  generalize merr k n c = m at *
  go_enter Try.func13, Try.ntmps13
  go_wp2_with fail
  refine Calls.mono (WR.out _) ?_
  rintro e w1 ⟨rfl, rfl⟩
  go_wp2
  go_ret2
  exact ⟨rfl, Below.refl _ _⟩
set_option maxHeartbeats 400000 in
theorem rXor_long (k n : ByteArray) (c : Int) (t : ByteArray) (h : merr k n c = 0) (ht : 65536 < t.size) (w : World) :
    Calls Try.prog 13 #[.string k, .string n, .int .i64 c, .string t] w fun e w' => e = .returned (.tuple #[.string ⟨#[]⟩, .int .i64 2]) ∧ Below w.heap.size w w' := by
  have WR : Hid (∀ w, Calls Try.prog 20 #[.string k, .string n, .int .i64 c] w fun e w' => e = .returned (.int .i64 0) ∧ w' = w) := by
    have := rmay_any k n c; rw [h] at this; exact this
  have ht' : (65536 : Int) < (t.size : Int) := by omega
  clear h
  go_enter Try.func13, Try.ntmps13
  go_wp2_with fail
  refine Calls.mono (WR.out _) ?_
  rintro e w1 ⟨rfl, rfl⟩
  go_wp2
  go_ret2
  exact ⟨rfl, Below.refl _ _⟩
set_option maxHeartbeats 400000 in
theorem rBytes_no (k n : ByteArray) (m : Int) (h : merr k n 0 ≠ 0) (w : World) :
    Calls Try.prog 15 #[.string k, .string n, .int .i64 m] w fun e w' => e = .returned (.tuple #[.string ⟨#[]⟩, .int .i64 (merr k n 0)]) ∧ Below w.heap.size w w' := by
  have WR : Hid (∀ w, Calls Try.prog 20 #[.string k, .string n, .int .i64 0] w fun e w' => e = .returned (.int .i64 (merr k n 0)) ∧ w' = w) := rmay_any k n 0
  generalize merr k n 0 = m at *
  go_enter Try.func15, Try.ntmps15
  go_wp2_with fail
  refine Calls.mono (WR.out _) ?_
  rintro e w1 ⟨rfl, rfl⟩
  go_wp2
  go_ret2
  exact ⟨rfl, Below.refl _ _⟩
set_option maxHeartbeats 400000 in
theorem rBytes_range (k n : ByteArray) (m : Int) (h : merr k n 0 = 0) (hm : m < 0 ∨ 65536 < m) (w : World) :
    Calls Try.prog 15 #[.string k, .string n, .int .i64 m] w fun e w' => e = .returned (.tuple #[.string ⟨#[]⟩, .int .i64 1]) ∧ Below w.heap.size w w' := by
  have WR : Hid (∀ w, Calls Try.prog 20 #[.string k, .string n, .int .i64 0] w fun e w' => e = .returned (.int .i64 0) ∧ w' = w) := by
    have := rmay_any k n 0; rw [h] at this; exact this
  clear h
  rcases hm with hm | hm
  · go_enter Try.func15, Try.ntmps15
    go_wp2_with fail
    refine Calls.mono (WR.out _) ?_
    rintro e w1 ⟨rfl, rfl⟩
    go_wp2
    go_ret2
    exact ⟨rfl, Below.refl _ _⟩
  · have hm' : ¬ m < 0 := by omega
    go_enter Try.func15, Try.ntmps15
    go_wp2_with fail
    refine Calls.mono (WR.out _) ?_
    rintro e w1 ⟨rfl, rfl⟩
    go_wp2
    go_ret2
    exact ⟨rfl, Below.refl _ _⟩

theorem rmay_ok (k n : ByteArray) (c : UInt32) (hk : k.size = 32) (hn : n.size = 12) (w : World) :
    Calls Try.prog 20 #[.string k, .string n, .int .i64 (tv c)] w fun e w' => e = .returned (.int .i64 0) ∧ w' = w := by
  have := rmay_any k n (tv c) w
  rw [merr_ok k n (tv c) hk hn (tv_nn c) (by have := tv_lt c; omega)] at this
  exact this

set_option maxHeartbeats 400000 in
theorem rBlock_ok (k n : ByteArray) (c : UInt32) (hk : Hid (k.size = 32)) (hn : Hid (n.size = 12)) (w : World) :
    Calls Try.prog 10 #[.string k, .string n, .int .i64 (tv c)] w fun e w' => e = .returned (.tuple #[.string ⟨(blk k.data.toList n.data.toList c).toArray⟩, .int .i64 0]) ∧ Below w.heap.size w w' := by
  have WR : Hid (∀ w, Calls Try.prog 20 #[.string k, .string n, .int .i64 (tv c)] w fun e w' => e = .returned (.int .i64 0) ∧ w' = w) := rmay_ok k n c hk.out hn.out
  have BK : Hid (∀ w, Calls Try.prog 21 #[.string k, .string n, .int .u32 (tv c)] w fun e w' => e = .returned (.string ⟨(blk k.data.toList n.data.toList c).toArray⟩) ∧ Below w.heap.size w w') := rblock_any k n c hk hn
  generalize (⟨(blk k.data.toList n.data.toList c).toArray⟩ : ByteArray) = B at *
  have W1 := wrap_tv c
  have W2 := tv_mod c
  go_enter Try.func10, Try.ntmps10
  go_wp2_with fail
  refine Calls.mono (WR.out _) ?_
  rintro e w1 ⟨rfl, hw1⟩
  have hw2 := hw1.symm
  subst hw2
  go_wp2_with fail
  refine Calls.mono (BK.out _) ?_
  rintro e w2 ⟨rfl, hb2⟩
  go_wp2
  go_ret2
  exact ⟨rfl, hb2⟩

set_option maxHeartbeats 400000 in
theorem rXor_ok (k n : ByteArray) (c : UInt32) (t : ByteArray) (hk : Hid (k.size = 32)) (hn : Hid (n.size = 12)) (ht : t.size ≤ 65536) (w : World) :
    Calls Try.prog 13 #[.string k, .string n, .int .i64 (tv c), .string t] w fun e w' => e = .returned (.tuple #[.string ⟨(xorl t.data.toList (strm k.data.toList n.data.toList c t.size)).toArray⟩, .int .i64 0]) ∧ Below w.heap.size w w' := by
  have WR : Hid (∀ w, Calls Try.prog 20 #[.string k, .string n, .int .i64 (tv c)] w fun e w' => e = .returned (.int .i64 0) ∧ w' = w) := rmay_ok k n c hk.out hn.out
  have SK : Hid (∀ w, Calls Try.prog 25 #[.string k, .string n, .int .i64 (tv c), .int .i64 (t.size : Int)] w fun e w' => e = .returned (.string ⟨(strm k.data.toList n.data.toList c t.size).toArray⟩) ∧ Below w.heap.size w w') := rStream_any k n c t.size hk hn ht
  obtain ⟨S, hS⟩ : ∃ S : ByteArray, ⟨(strm k.data.toList n.data.toList c t.size).toArray⟩ = S := ⟨_, rfl⟩
  have sS : t.size = S.size := by rw [← hS]; show _ = (_ : List UInt8).toArray.size; rw [List.size_toArray, strm_len]
  have WT : Hid (∀ w, Calls Try.prog 24 #[.string t, .string S] w fun e w' => e = .returned (.string ⟨(xorl t.data.toList (strm k.data.toList n.data.toList c t.size)).toArray⟩) ∧ Below w.heap.size w w') := fun w => by
    have h := rWith_any t S sS ht w
    rw [show S.data.toList = strm k.data.toList n.data.toList c t.size by rw [← hS]] at h
    exact h
  rw [hS] at SK
  generalize (⟨(xorl t.data.toList (strm k.data.toList n.data.toList c t.size)).toArray⟩ : ByteArray) = X at *
  have ht' : (t.size : Int) ≤ 65536 := by omega
  clear hS sS
  go_enter Try.func13, Try.ntmps13
  go_wp2_with fail
  refine Calls.mono (WR.out _) ?_
  rintro e w1 ⟨rfl, hw1⟩
  have hw2 := hw1.symm
  subst hw2
  go_wp2_with fail
  refine Calls.mono (SK.out _) ?_
  rintro e w2 ⟨rfl, hb2⟩
  have B2 : Hid (Below w.heap.size w w2) := hb2
  clear hb2 SK
  go_wp2_with fail
  refine Calls.mono (WT.out _) ?_
  rintro e w3 ⟨rfl, hb3⟩
  have B3 : Hid (Below w.heap.size w w3) := chain B2.out hb3
  clear hb3 WT
  go_wp2
  go_ret2
  exact ⟨rfl, B3.out⟩

set_option maxHeartbeats 400000 in
theorem rBytes_ok (k n : ByteArray) (m : Nat) (hk : Hid (k.size = 32)) (hn : Hid (n.size = 12)) (hm : m ≤ 65536) (w : World) :
    Calls Try.prog 15 #[.string k, .string n, .int .i64 (m : Int)] w fun e w' => e = .returned (.tuple #[.string ⟨(strm k.data.toList n.data.toList 0 m).toArray⟩, .int .i64 0]) ∧ Below w.heap.size w w' := by
  have WR : Hid (∀ w, Calls Try.prog 20 #[.string k, .string n, .int .i64 0] w fun e w' => e = .returned (.int .i64 0) ∧ w' = w) := rmay_ok k n 0 hk.out hn.out
  have SK : Hid (∀ w, Calls Try.prog 25 #[.string k, .string n, .int .i64 0, .int .i64 (m : Int)] w fun e w' => e = .returned (.string ⟨(strm k.data.toList n.data.toList 0 m).toArray⟩) ∧ Below w.heap.size w w') := rStream_any k n 0 m hk hn hm
  generalize (⟨(strm k.data.toList n.data.toList 0 m).toArray⟩ : ByteArray) = X at *
  have hm1 : (m : Int) ≤ 65536 := by omega
  have hm2 : ¬ (65536 : Int) < (m : Int) := by omega
  go_enter Try.func15, Try.ntmps15
  go_wp2_with fail
  refine Calls.mono (WR.out _) ?_
  rintro e w1 ⟨rfl, hw1⟩
  have hw2 := hw1.symm
  subst hw2
  go_wp2_with fail
  refine Calls.mono (SK.out _) ?_
  rintro e w2 ⟨rfl, hb2⟩
  go_wp2
  go_ret2
  exact ⟨rfl, hb2⟩
end Go.Proofs.Ytpnpllklmdjbaaa
