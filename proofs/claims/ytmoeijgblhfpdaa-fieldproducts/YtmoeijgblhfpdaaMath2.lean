/- Plain facts on bytes and numbers: the lowest byte first. -/
import Derived.Test.YtmoeijgblhfpdaaMath
namespace Go.Proofs.Fd

/-- The number of bytes, the lowest first. -/
def num : List UInt8 → Nat
  | [] => 0
  | b :: l => b.toNat + 256 * num l

/-- So many bytes of a number, the lowest first. -/
def byts : Nat → Nat → List UInt8
  | 0, _ => []
  | k + 1, n => UInt8.ofNat (n % 256) :: byts k (n / 256)

theorem byts_length (k n : Nat) : (byts k n).length = k := by
  induction k generalizing n with
  | zero => rfl
  | succ k ih => simp [byts, ih]

theorem num_byts (k n : Nat) : num (byts k n) = n % 256 ^ k := by
  induction k generalizing n with
  | zero => simp [byts, num, Nat.mod_one]
  | succ k ih =>
    simp only [byts, num, ih]
    have : (UInt8.ofNat (n % 256)).toNat = n % 256 := by simp
    rw [this, Nat.pow_succ, Nat.mul_comm (256 ^ k) 256, Nat.mod_mul]

theorem byts_num (l : List UInt8) : byts l.length (num l) = l := by
  induction l with
  | nil => rfl
  | cons b l ih =>
    have hb : b.toNat < 256 := b.toNat_lt
    simp only [List.length_cons, byts, num]
    rw [show (b.toNat + 256 * num l) / 256 = num l by omega, ih, show (b.toNat + 256 * num l) % 256 = b.toNat by omega]
    simp

theorem num_lt (l : List UInt8) : num l < 256 ^ l.length := by
  induction l with
  | nil => simp [num]
  | cons b l ih =>
    have hb : b.toNat < 256 := b.toNat_lt
    simp only [List.length_cons, num, Nat.pow_succ]; omega

theorem num_append (l m : List UInt8) : num (l ++ m) = num l + 256 ^ l.length * num m := by
  induction l with
  | nil => simp [num]
  | cons b l ih =>
    simp only [List.cons_append, num, ih, List.length_cons, Nat.pow_succ]
    rw [Nat.mul_add, Nat.mul_comm (256 ^ l.length) 256, Nat.mul_assoc]; omega

theorem byts_append (j k n : Nat) : byts j (n % 256 ^ j) ++ byts k (n / 256 ^ j) = byts (j + k) n := by
  induction j generalizing n with
  | zero => simp [byts]
  | succ j ih =>
    have e1 : n % 256 ^ (j + 1) % 256 = n % 256 := by
      rw [Nat.pow_succ, Nat.mul_comm, Nat.mod_mul_right_mod]
    have e2 : n % 256 ^ (j + 1) / 256 = n / 256 % 256 ^ j := by
      rw [Nat.pow_succ, Nat.mul_comm, Nat.mod_mul_right_div_self]
    have e3 : n / 256 ^ (j + 1) = n / 256 / 256 ^ j := by
      rw [Nat.pow_succ, Nat.mul_comm, Nat.div_div_eq_div_mul]
    rw [Nat.succ_add]
    simp only [byts, List.cons_append, e1, e2, e3, ih]

theorem num_eight (x0 x1 x2 x3 x4 x5 x6 x7 : UInt8) : num [x0, x1, x2, x3, x4, x5, x6, x7] = x0.toNat + 256 * x1.toNat + 65536 * x2.toNat + 16777216 * x3.toNat + 4294967296 * x4.toNat + 1099511627776 * x5.toNat + 281474976710656 * x6.toNat + 72057594037927936 * x7.toNat := by
  simp only [num]; omega

theorem num_cut (l : List UInt8) (h : 8 ≤ l.length) : num l = num (l.take 8) + 18446744073709551616 * num (l.drop 8) := by
  have e : num l = num (l.take 8 ++ l.drop 8) := by rw [List.take_append_drop]
  rw [e, num_append, List.length_take, Nat.min_eq_left h]

theorem num_take8 (l : List UInt8) : num (l.take 8) < 18446744073709551616 := by
  have h1 := num_lt (l.take 8)
  have h2 : (l.take 8).length ≤ 8 := List.length_take_le _ _
  have h3 : 256 ^ (l.take 8).length ≤ 256 ^ 8 := Nat.pow_le_pow_right (by decide) h2
  have h4 : (256 : Nat) ^ 8 = 18446744073709551616 := by decide
  omega

theorem num_load (l : List UInt8) (h : l.length = 32) :
    u4 (num (l.take 8)) (num ((l.drop 8).take 8)) (num ((l.drop 16).take 8)) (num ((l.drop 24).take 8)) ∧ v4 (num (l.take 8)) (num ((l.drop 8).take 8)) (num ((l.drop 16).take 8)) (num ((l.drop 24).take 8)) = num l := by
  refine ⟨⟨num_take8 _, num_take8 _, num_take8 _, num_take8 _⟩, ?_⟩
  have e1 := num_cut l (by omega)
  have e2 := num_cut (l.drop 8) (by simp [h])
  have e3 := num_cut (l.drop 16) (by simp [h])
  have e4 := num_cut (l.drop 24) (by simp [h])
  have e5 : num (l.drop 32) = 0 := by rw [List.drop_of_length_le (by omega)]; rfl
  simp only [List.drop_drop, Nat.reduceAdd] at e2 e3 e4
  unfold v4
  omega

end Go.Proofs.Fd
