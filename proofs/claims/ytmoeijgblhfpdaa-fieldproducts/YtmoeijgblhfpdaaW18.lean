/- The chapter's examples hold: works answers true. -/
import Derived.Test.YtmoeijgblhfpdaaW17
namespace Go.Proofs.Ytmoeijgblhfpdaa
open Go.RowKit Go.Proofs.Fd

theorem small_k (n : Nat) (x : Int) (hx : x = (n : Int)) (h : n ≤ 2147483647) (w : World) :
    Calls Try.prog 28 #[.int .i64 x] w fun e w' => e = .returned (.string (enc n)) ∧ Below w.heap.size w w' := by
  subst hx
  have := small_at (n : Int) (by omega) (by omega) w
  rw [Int.toNat_natCast] at this
  exact this

theorem ff_cells (j : Nat) (hj : j < (List.replicate 32 (255 : UInt8)).length) : (#[.int .u8 255, .int .u8 255, .int .u8 255, .int .u8 255, .int .u8 255, .int .u8 255, .int .u8 255, .int .u8 255, .int .u8 255, .int .u8 255, .int .u8 255, .int .u8 255, .int .u8 255, .int .u8 255, .int .u8 255, .int .u8 255, .int .u8 255, .int .u8 255, .int .u8 255, .int .u8 255, .int .u8 255, .int .u8 255, .int .u8 255, .int .u8 255, .int .u8 255, .int .u8 255, .int .u8 255, .int .u8 255, .int .u8 255, .int .u8 255, .int .u8 255, .int .u8 255] : Array Value)[j]? = some (.int .u8 (((List.replicate 32 (255 : UInt8))[j]'hj).toNat : Int)) := by
  have hj' : j < 32 := hj
  match j, hj' with
  | 0, _ => rfl
  | 1, _ => rfl
  | 2, _ => rfl
  | 3, _ => rfl
  | 4, _ => rfl
  | 5, _ => rfl
  | 6, _ => rfl
  | 7, _ => rfl
  | 8, _ => rfl
  | 9, _ => rfl
  | 10, _ => rfl
  | 11, _ => rfl
  | 12, _ => rfl
  | 13, _ => rfl
  | 14, _ => rfl
  | 15, _ => rfl
  | 16, _ => rfl
  | 17, _ => rfl
  | 18, _ => rfl
  | 19, _ => rfl
  | 20, _ => rfl
  | 21, _ => rfl
  | 22, _ => rfl
  | 23, _ => rfl
  | 24, _ => rfl
  | 25, _ => rfl
  | 26, _ => rfl
  | 27, _ => rfl
  | 28, _ => rfl
  | 29, _ => rfl
  | 30, _ => rfl
  | 31, _ => rfl
  | n + 32, h => omega

set_option maxHeartbeats 4000000 in
theorem works_any (w : World) :
    Calls Try.prog 16 #[] w fun e w' => e = .returned (.bool true) ∧ Below w.heap.size w w' := by
  have hmk : ∀ w : World, (Instr.makeSlice 57 (.int .i64 32) (.int .i64 32)).run Try.prog w = .ok (.slice (some ⟨w.heap.size, 0, none⟩) 32 32) (w.alloc (.cells #[.int .u8 0, .int .u8 0, .int .u8 0, .int .u8 0, .int .u8 0, .int .u8 0, .int .u8 0, .int .u8 0, .int .u8 0, .int .u8 0, .int .u8 0, .int .u8 0, .int .u8 0, .int .u8 0, .int .u8 0, .int .u8 0, .int .u8 0, .int .u8 0, .int .u8 0, .int .u8 0, .int .u8 0, .int .u8 0, .int .u8 0, .int .u8 0, .int .u8 0, .int .u8 0, .int .u8 0, .int .u8 0, .int .u8 0, .int .u8 0, .int .u8 0, .int .u8 0] 5)) := fun _ => by kernel_rfl
  obtain ⟨H, hH⟩ : ∃ H, 2 ^ (p - 2) % p = H := ⟨_, rfl⟩
  have HH : Hid (H < p ∧ H * 2 % p = 1) := ⟨by rw [← hH]; exact Nat.mod_lt _ p_pos, by rw [← hH]; exact half_two⟩
  have S0 : Hid (∀ w, Calls Try.prog 28 #[.int .i64 0] w fun e w' => e = .returned (.string (enc 0)) ∧ Below w.heap.size w w') := fun w => small_k 0 0 rfl (by omega) w
  have S1 : Hid (∀ w, Calls Try.prog 28 #[.int .i64 1] w fun e w' => e = .returned (.string (enc 1)) ∧ Below w.heap.size w w') := fun w => small_k 1 1 rfl (by omega) w
  have S2 : Hid (∀ w, Calls Try.prog 28 #[.int .i64 2] w fun e w' => e = .returned (.string (enc 2)) ∧ Below w.heap.size w w') := fun w => small_k 2 2 rfl (by omega) w
  have S37 : Hid (∀ w, Calls Try.prog 28 #[.int .i64 37] w fun e w' => e = .returned (.string (enc 37)) ∧ Below w.heap.size w w') := fun w => small_k 37 37 rfl (by omega) w
  have SU : Hid (∀ w, Calls Try.prog 21 #[.string (enc 0), .string (enc 1)] w fun e w' => e = .returned (.tuple #[.string (enc (p - 1)), .int .i64 0]) ∧ Below w.heap.size w w') := fun w => by
    have := Sub_el 0 1 (by decide) (by decide) w; rw [minus_one] at this; exact this
  have AD : Hid (∀ (B : Nat) (w : World), w.cell? ⟨B, 0, none⟩ = some (.string (enc (p - 1))) → w.cell? ⟨B, 1, none⟩ = some (.string (enc 2)) → Calls Try.prog 17 #[.slice (some ⟨B, 0, none⟩) 2 2] w fun e w' => e = .returned (.tuple #[.string (enc 1), .int .i64 0]) ∧ Below w.heap.size w w') := fun B w h0 h1 => by
    have := Add2_el (p - 1) 2 B (by decide) (by decide) w h0 h1; rw [one_again] at this; exact this
  have IN : Hid (∀ w, Calls Try.prog 23 #[.string (enc 2)] w fun e w' => e = .returned (.tuple #[.string (enc H), .int .i64 0]) ∧ Below w.heap.size w w') := fun w => by
    have := Inv_el 2 (by decide) w; rw [hH] at this; exact this
  have MU : Hid (∀ (B : Nat) (w : World), w.cell? ⟨B, 0, none⟩ = some (.string (enc H)) → w.cell? ⟨B, 1, none⟩ = some (.string (enc 2)) → Calls Try.prog 19 #[.slice (some ⟨B, 0, none⟩) 2 2] w fun e w' => e = .returned (.tuple #[.string (enc 1), .int .i64 0]) ∧ Below w.heap.size w w') := fun B w h0 h1 => by
    have := Mul2_el H 2 B HH.out.1 (by decide) w h0 h1; rw [HH.out.2] at this; exact this
  have RE : Hid (∀ w, Calls Try.prog 9 #[.string ⟨(List.replicate 32 (255 : UInt8)).toArray⟩] w fun e w' => e = .returned (.tuple #[.string (enc 37), .int .i64 0]) ∧ Below w.heap.size w w') := fun w => by
    have := Reduce_ok ⟨(List.replicate 32 (255 : UInt8)).toArray⟩ (by decide) w
    rw [show num (⟨(List.replicate 32 (255 : UInt8)).toArray⟩ : ByteArray).data.toList % p = 37 from num_ff] at this
    exact this
  have hsz : (enc 1).size = 32 := enc_size 1
  clear hH
  go_enter Try.func16, Try.ntmps16
  go_wp2_with fail
  refine Calls.mono (S0.out _) ?_
  rintro e w1 ⟨rfl, hb⟩
  have B1 : Hid (Below w.heap.size w w1) := hb
  clear hb
  go_wp2_with fail
  refine Calls.mono (S1.out _) ?_
  rintro e w2 ⟨rfl, hb⟩
  have B2 : Hid (Below w.heap.size w w2) := chain B1.out hb
  clear hb
  go_wp2_with fail
  refine Calls.mono (SU.out _) ?_
  rintro e w3 ⟨rfl, hb⟩
  have B3 : Hid (Below w.heap.size w w3) := chain B2.out hb
  clear hb
  go_wp2_with fail
  refine Calls.mono (S2.out _) ?_
  rintro e w4 ⟨rfl, hb⟩
  have B4 : Hid (Below w.heap.size w w4) := chain B3.out hb
  clear hb
  go_wp2_with fail
  refine Calls.mono (AD.out w4.heap.size _ (by simp [go_sem]) (by simp [go_sem])) ?_
  rintro e w5 ⟨rfl, hb⟩
  have B5 : Hid (Below w.heap.size w w5) := chain (B4.out.alloc B4.out.size _) hb
  clear hb
  go_wp2_with fail
  refine Calls.mono (S2.out _) ?_
  rintro e w6 ⟨rfl, hb⟩
  have B6 : Hid (Below w.heap.size w w6) := chain B5.out hb
  clear hb
  go_wp2_with fail
  refine Calls.mono (IN.out _) ?_
  rintro e w7 ⟨rfl, hb⟩
  have B7 : Hid (Below w.heap.size w w7) := chain B6.out hb
  clear hb
  go_wp2_with fail
  refine Calls.mono (S2.out _) ?_
  rintro e w8 ⟨rfl, hb⟩
  have B8 : Hid (Below w.heap.size w w8) := chain B7.out hb
  clear hb
  go_wp2_with fail
  refine Calls.mono (MU.out w8.heap.size _ (by simp [go_sem]) (by simp [go_sem])) ?_
  rintro e w9 ⟨rfl, hb⟩
  have B9 : Hid (Below w.heap.size w w9) := chain (B8.out.alloc B8.out.size _) hb
  clear hb
  go_wp2
  refine wp_loop_rounds 33 ?_
  rw [rounds_succ]
  go_wp2
  rw [rounds_succ]
  go_wp2
  rw [rounds_succ]
  go_wp2
  rw [rounds_succ]
  go_wp2
  rw [rounds_succ]
  go_wp2
  rw [rounds_succ]
  go_wp2
  rw [rounds_succ]
  go_wp2
  rw [rounds_succ]
  go_wp2
  rw [rounds_succ]
  go_wp2
  rw [rounds_succ]
  go_wp2
  rw [rounds_succ]
  go_wp2
  rw [rounds_succ]
  go_wp2
  rw [rounds_succ]
  go_wp2
  rw [rounds_succ]
  go_wp2
  rw [rounds_succ]
  go_wp2
  rw [rounds_succ]
  go_wp2
  rw [rounds_succ]
  go_wp2
  rw [rounds_succ]
  go_wp2
  rw [rounds_succ]
  go_wp2
  rw [rounds_succ]
  go_wp2
  rw [rounds_succ]
  go_wp2
  rw [rounds_succ]
  go_wp2
  rw [rounds_succ]
  go_wp2
  rw [rounds_succ]
  go_wp2
  rw [rounds_succ]
  go_wp2
  rw [rounds_succ]
  go_wp2
  rw [rounds_succ]
  go_wp2
  rw [rounds_succ]
  go_wp2
  rw [rounds_succ]
  go_wp2
  rw [rounds_succ]
  go_wp2
  rw [rounds_succ]
  go_wp2
  rw [rounds_succ]
  go_wp2
  rw [rounds_succ]
  go_wp2
  rw [conv_back w9.heap.size (List.replicate 32 (255 : UInt8)) rfl _ ?hc]
  case hc =>
    intro j hj
    rw [World.cell?_alloc_new]
    exact ff_cells j hj
  go_wp2_with fail
  refine Calls.mono (RE.out _) ?_
  rintro e w10 ⟨rfl, hb⟩
  have B10 : Hid (Below w.heap.size w w10) := chain (B9.out.alloc B9.out.size _) hb
  clear hb
  go_wp2_with fail
  refine Calls.mono (S1.out _) ?_
  rintro e w11 ⟨rfl, hb⟩
  have B11 : Hid (Below w.heap.size w w11) := chain B10.out hb
  clear hb
  go_wp2_with fail
  refine Calls.mono (S1.out _) ?_
  rintro e w12 ⟨rfl, hb⟩
  have B12 : Hid (Below w.heap.size w w12) := chain B11.out hb
  clear hb
  go_wp2_with fail
  refine Calls.mono (S37.out _) ?_
  rintro e w13 ⟨rfl, hb⟩
  have B13 : Hid (Below w.heap.size w w13) := chain B12.out hb
  clear hb
  go_wp2
  go_ret
  exact ⟨rfl, B13.out⟩

end Go.Proofs.Ytmoeijgblhfpdaa
