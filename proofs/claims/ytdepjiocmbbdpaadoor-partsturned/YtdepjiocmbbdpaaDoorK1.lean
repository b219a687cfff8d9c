/- Words turned. -/
import Derived.Test.YtdepjiocmbbdpaaDoorKB
import Derived.Test.YtdepjiocmbbdpaaDoorKM
namespace Go.Proofs.YtdepjiocmbbdpaaDoor
open Go.RowKit Go.Proofs.Fd Go.Proofs.Hs

theorem wr32 (n : Int) (h₀ : 0 ≤ n) (h₁ : n < 2 ^ 32) : IntKind.u32.wrap n = n := by rw [IntKind.wrap_u32]; omega
theorem wr64 (n : Int) (h₀ : 0 ≤ n) (h₁ : n < 2 ^ 64) : IntKind.u64.wrap n = n := by rw [IntKind.wrap_u64]; omega
/-- A word as the model has it. -/
def tv (x : UInt32) : Int := (x.toNat : Int)
theorem tv_nn (x : UInt32) : 0 ≤ tv x := Int.natCast_nonneg _
theorem tv_lt (x : UInt32) : tv x < 4294967296 := by have := x.toNat_lt; unfold tv; omega
theorem tv_ofNat (n : Nat) : tv (UInt32.ofNat n) = ((n % 4294967296 : Nat) : Int) := by unfold tv; rw [UInt32.toNat_ofNat']
theorem tv_of (v : Int) (h0 : 0 ≤ v) (h1 : v < 4294967296) : tv (UInt32.ofNat v.toNat) = v := by rw [tv_ofNat]; omega
theorem and32 (x y : UInt32) : bits .and .u32 (tv x) (tv y) = tv (x &&& y) := by
  unfold tv
  rw [(bits_nat .u32 32 (by decide) wr32 x.toNat y.toNat x.toNat_lt y.toNat_lt).1, UInt32.toNat_and]
theorem or32 (x y : UInt32) : bits .or .u32 (tv x) (tv y) = tv (x ||| y) := by
  unfold tv
  rw [(bits_nat .u32 32 (by decide) wr32 x.toNat y.toNat x.toNat_lt y.toNat_lt).2, UInt32.toNat_or]
theorem xor32 (x y : UInt32) : bits .xor .u32 (tv x) (tv y) = tv (x ^^^ y) := by
  unfold tv
  have h1 : x.toNat < 2 ^ 32 := x.toNat_lt
  have h2 : y.toNat < 2 ^ 32 := y.toNat_lt
  have h3 : x.toNat ^^^ y.toNat < 2 ^ 32 := Nat.xor_lt_two_pow h1 h2
  rw [UInt32.toNat_xor]
  have e1 : x.toNat % 2 ^ IntKind.u32.bits = x.toNat := Nat.mod_eq_of_lt h1
  have e2 : y.toNat % 2 ^ IntKind.u32.bits = y.toNat := Nat.mod_eq_of_lt h2
  simp only [bits, BitVec.ofInt_natCast, BitVec.toNat_xor, BitVec.toNat_ofNat, e1, e2]
  rw [IntKind.wrap_u32]
  omega
theorem add32 (x y : UInt32) : IntKind.u32.wrap (tv x + tv y) = tv (x + y) := by
  unfold tv; rw [IntKind.wrap_u32, UInt32.toNat_add]; omega
theorem add32' (x y : UInt32) : (tv x + tv y) % 4294967296 = tv (x + y) := by
  unfold tv; rw [UInt32.toNat_add]; omega
theorem mov32 (x : UInt32) (n : Nat) : tv x / 2 ^ n = tv (UInt32.ofNat (x.toNat / 2 ^ n)) := by
  unfold tv
  rw [UInt32.toNat_ofNat', Nat.mod_eq_of_lt (Nat.lt_of_le_of_lt (Nat.div_le_self _ _) x.toNat_lt)]
  simp

theorem rot_amount (k : Nat) (h1 : 1 ≤ k) (h2 : k ≤ 31) : bits .and .u64 (IntKind.u64.wrap (-(k : Int))) 31 = ((32 - k : Nat) : Int) := by
  have e : IntKind.u64.wrap (-(k : Int)) = ((2 ^ 64 - k : Nat) : Int) := by rw [IntKind.wrap_u64]; omega
  rw [e]
  have := bits_mask .u64 64 (by decide) wr64 5 (by decide) ((2 ^ 64 - k : Nat) : Int) (by omega) (by omega)
  rw [show (2 : Int) ^ 5 - 1 = 31 by decide] at this
  rw [this]
  omega

theorem trn_or (x : UInt32) (k : Nat) (h1 : 1 ≤ k) (h2 : k ≤ 31) :
    bits .or .u32 (tv x * 2 ^ (32 - k) % 4294967296) (tv x / 2 ^ k) = tv (trn x k) := by
  unfold tv
  have hx := x.toNat_lt
  have e1 : (x.toNat : Int) * 2 ^ (32 - k) % 4294967296 = ((x.toNat * 2 ^ (32 - k) % 2 ^ 32 : Nat) : Int) := by simp
  have e2 : (x.toNat : Int) / 2 ^ k = ((x.toNat / 2 ^ k : Nat) : Int) := by simp
  have b1 : x.toNat * 2 ^ (32 - k) % 2 ^ 32 < 2 ^ 32 := Nat.mod_lt _ (by decide)
  have hk : (2 : Nat) ^ k * 2 ^ (32 - k) = 2 ^ 32 := by rw [← Nat.pow_add]; congr 1; omega
  have b3 : x.toNat / 2 ^ k < 2 ^ (32 - k) := by
    rw [Nat.div_lt_iff_lt_mul (Nat.two_pow_pos k), Nat.mul_comm, hk]; exact hx
  have b2 : x.toNat / 2 ^ k < 2 ^ 32 := Nat.lt_of_le_of_lt (Nat.div_le_self _ _) hx
  rw [e1, e2, (bits_nat .u32 32 (by decide) wr32 _ _ b1 b2).2]
  have e3 : x.toNat * 2 ^ (32 - k) % 2 ^ 32 = (x.toNat % 2 ^ k) * 2 ^ (32 - k) := by
    rw [← hk, Nat.mul_mod_mul_right]
  have e4 : (x.toNat % 2 ^ k) * 2 ^ (32 - k) ||| x.toNat / 2 ^ k = (x.toNat % 2 ^ k) * 2 ^ (32 - k) + x.toNat / 2 ^ k := by
    have := Nat.shiftLeft_add_eq_or_of_lt b3 (x.toNat % 2 ^ k)
    rw [Nat.shiftLeft_eq] at this
    exact this.symm
  have b5 : (x.toNat % 2 ^ k) * 2 ^ (32 - k) + x.toNat / 2 ^ k < 2 ^ 32 := by
    have : x.toNat % 2 ^ k < 2 ^ k := Nat.mod_lt _ (Nat.two_pow_pos k)
    have : (x.toNat % 2 ^ k + 1) * 2 ^ (32 - k) ≤ 2 ^ k * 2 ^ (32 - k) := Nat.mul_le_mul_right _ this
    rw [hk, Nat.add_mul, Nat.one_mul] at this
    omega
  rw [e3, e4]
  unfold trn
  rw [UInt32.toNat_ofNat']
  congr 1
  have e6 : (x.toNat / 2 ^ k + x.toNat * 2 ^ (32 - k)) % 2 ^ 32 = (x.toNat / 2 ^ k + x.toNat * 2 ^ (32 - k) % 2 ^ 32) % 2 ^ 32 := by
    rw [Nat.add_mod_mod]
  rw [e6, e3, Nat.add_comm (x.toNat / 2 ^ k), Nat.mod_eq_of_lt b5]

set_option maxHeartbeats 400000 in
theorem rot_any (x : UInt32) (k : Nat) (h1 : 1 ≤ k) (h2 : k ≤ 31) (w : World) :
    Calls Tryd.prog 76 #[.int .u32 (tv x), .int .i64 (-(k : Int))] w fun e w' => e = .returned (.int .u32 (tv (trn x k))) ∧ w' = w := by
  have HA := rot_amount k h1 h2
  have HO : Hid (_ = _) := trn_or x k h1 h2
  obtain ⟨r, hr⟩ : ∃ r, 32 - k = r := ⟨_, rfl⟩
  rw [hr] at HA HO
  have h3 : r ≤ 32 := by omega
  have h4 : (r : Int) ≤ 32 := by omega
  have h5 : IntKind.u64.wrap (32 - (r : Int)) = (k : Int) := by rw [IntKind.wrap_u64]; omega
  have h6 : (k : Int) ≤ 32 := by omega
  clear hr h1 h2
  go_enter Tryd.func76, Tryd.ntmps76
  go_wp2
  go_ret
  exact ⟨by rw [← HO.out]; rfl, rfl⟩
attribute [local go_sem] and32 or32 xor32 add32 add32'

set_option maxHeartbeats 400000 in
theorem turned_any (x : UInt32) (k l n : Nat) (h1 : 1 ≤ k ∧ k ≤ 31) (h2 : 1 ≤ l ∧ l ≤ 31) (h3 : 1 ≤ n ∧ n ≤ 31) (w : World) :
    Calls Tryd.prog 74 #[.int .u32 (tv x), .int .i64 (k : Int), .int .i64 (l : Int), .int .i64 (n : Int)] w fun e w' => e = .returned (.int .u32 (tv (turned x k l n))) ∧ w' = w := by
  have g1 : IntKind.i64.wrap (-(k : Int)) = -(k : Int) := by rw [IntKind.wrap_i64]; omega
  have g2 : IntKind.i64.wrap (-(l : Int)) = -(l : Int) := by rw [IntKind.wrap_i64]; omega
  have g3 : IntKind.i64.wrap (-(n : Int)) = -(n : Int) := by rw [IntKind.wrap_i64]; omega
  have R1 : Hid (∀ w, Calls Tryd.prog 76 #[.int .u32 (tv x), .int .i64 (-(k : Int))] w fun e w' => e = .returned (.int .u32 (tv (trn x k))) ∧ w' = w) := rot_any x k h1.1 h1.2
  have R2 : Hid (∀ w, Calls Tryd.prog 76 #[.int .u32 (tv x), .int .i64 (-(l : Int))] w fun e w' => e = .returned (.int .u32 (tv (trn x l))) ∧ w' = w) := rot_any x l h2.1 h2.2
  have R3 : Hid (∀ w, Calls Tryd.prog 76 #[.int .u32 (tv x), .int .i64 (-(n : Int))] w fun e w' => e = .returned (.int .u32 (tv (trn x n))) ∧ w' = w) := rot_any x n h3.1 h3.2
  clear h1 h2 h3
  go_enter Tryd.func74, Tryd.ntmps74
  go_wp2_with fail
  refine Calls.mono (R1.out _) ?_
  rintro e w1 ⟨rfl, rfl⟩
  go_wp2_with fail
  refine Calls.mono (R2.out _) ?_
  rintro e w1 ⟨rfl, rfl⟩
  go_wp2_with fail
  refine Calls.mono (R3.out _) ?_
  rintro e w1 ⟨rfl, rfl⟩
  go_wp2
  go_ret
  exact ⟨rfl, rfl⟩

set_option maxHeartbeats 400000 in
theorem spread_any (x : UInt32) (k l n : Nat) (h1 : 1 ≤ k ∧ k ≤ 31) (h2 : 1 ≤ l ∧ l ≤ 31) (h3 : 1 ≤ n ∧ n ≤ 31) (w : World) :
    Calls Tryd.prog 77 #[.int .u32 (tv x), .int .i64 (k : Int), .int .i64 (l : Int), .int .i64 (n : Int)] w fun e w' => e = .returned (.int .u32 (tv (spread x k l n))) ∧ ∃ m, w' = w.drewN m := by
  have g1 : IntKind.i64.wrap (-(k : Int)) = -(k : Int) := by rw [IntKind.wrap_i64]; omega
  have g2 : IntKind.i64.wrap (-(l : Int)) = -(l : Int) := by rw [IntKind.wrap_i64]; omega
  have g3 : (0 : Int) ≤ (n : Int) := by omega
  have g4 : (n : Int) ≤ 32 := by omega
  have HM : Hid (_ = _) := mov32 x n
  have RR : Hid (∀ (j : Nat) (_ : Hid (1 ≤ j ∧ j ≤ 31)) (w : World), Calls Tryd.prog 76 #[.int .u32 (tv x), .int .i64 (-(j : Int))] w fun e w' => e = .returned (.int .u32 (tv (trn x j))) ∧ w' = w) := fun j hj => rot_any x j hj.out.1 hj.out.2
  have H1 : Hid (1 ≤ k ∧ k ≤ 31) := h1
  have H2 : Hid (1 ≤ l ∧ l ≤ 31) := h2
  clear h1 h2 h3
  go_enter Tryd.func77, Tryd.ntmps77
  go_wp2
  go_region_held3 (fun _ => True) (trivial) (first | (go_at_call 76; refine Calls.mono (RR.out _ ?_ _) ?_; (focus assumption); rintro e w' ⟨rfl, rfl⟩))
  go_wp2
  go_ret
  refine ⟨?_, 1, rfl⟩
  show Ending.returned (.int .u32 (bits .xor .u32 (tv (trn x k ^^^ trn x l)) (tv x / 2 ^ n))) = _
  rw [HM.out, xor32]
  rfl
end Go.Proofs.YtdepjiocmbbdpaaDoor
