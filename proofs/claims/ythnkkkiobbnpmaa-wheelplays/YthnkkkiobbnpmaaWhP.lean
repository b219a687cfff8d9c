/- Where a deadline's slot is. -/
import Derived.Test.YthnkkkiobbnpmaaKB
import Derived.Test.YthnkkkiobbnpmaaWhN
import Derived.Shelf.Small.Bits
namespace Go.Proofs.Ythnkkkiobbnpmaa
open Go.RowKit Go.Proofs.Fd Go.Proofs.Wh
set_option maxRecDepth 20000

def lenAt : Go.Shelf.Ren := ⟨fun x => if x = 125 then 32 else if x = 128 then 37 else if x = 129 then 38 else 0, fun x => if x = 3 then 3 else if x = 4 then 4 else if x = 5 then 5 else if x = 9 then 9 else if x = 46 then 71 else if x = 51 then 76 else if x = 53 then 47 else 0, fun n => n⟩
theorem lenLies : Lays.n125 Try.prog lenAt :=
  { mixed := by kernel_rfl, f125 := by kernel_rfl, f128 := by kernel_rfl, f129 := by kernel_rfl, t3 := by kernel_rfl, a3 := fun _ => by kernel_rfl, z3 := fun _ => by kernel_rfl, v3 := fun _ => by kernel_rfl, t4 := by kernel_rfl, a4 := fun _ => by kernel_rfl, z4 := fun _ => by kernel_rfl, v4 := fun _ => by kernel_rfl, t5 := by kernel_rfl, a5 := fun _ => by kernel_rfl, z5 := fun _ => by kernel_rfl, v5 := fun _ => by kernel_rfl, t9 := by kernel_rfl, a9 := fun _ => by kernel_rfl, z9 := fun _ => by kernel_rfl, v9 := fun _ => by kernel_rfl, t46 := by kernel_rfl, a46 := fun _ => by kernel_rfl, z46 := fun _ => by kernel_rfl, v46 := fun _ => by kernel_rfl, t51 := by kernel_rfl, a51 := fun _ => by kernel_rfl, z51 := fun _ => by kernel_rfl, v51 := fun _ => by kernel_rfl, t53 := by kernel_rfl, a53 := fun _ => by kernel_rfl, z53 := fun _ => by kernel_rfl, v53 := fun _ => by kernel_rfl }

theorem bitLen_zero : Lib.bitLen 0 = 0 := rfl
theorem bitLen_pos : ∀ (x : Nat), x ≠ 0 → x < 2 ^ 64 → Lib.bitLen x = x.log2 + 1 := by
  intro x
  induction x using Nat.strongRecOn with
  | ind x ih =>
    intro h0 h
    rw [Lib.bitLen_half x h0 h, Nat.log2_def]
    by_cases h2 : 2 ≤ x
    · rw [if_pos h2, ih (x / 2) (by omega) (by omega) (by omega)]
      omega
    · have : x = 1 := by omega
      subst this
      rfl
theorem bits_xor_i64 (a b : Nat) (ha : a < 9223372036854775808) (hb : b < 9223372036854775808) : bits .xor .i64 (a : Int) (b : Int) = ((a ^^^ b : Nat) : Int) := by
  have hx : a ^^^ b < 2 ^ 63 := Nat.xor_lt_two_pow (by omega) (by omega)
  have h1 : (BitVec.ofInt 64 (a : Int)).toNat = a := by rw [BitVec.toNat_ofInt]; omega
  have h2 : (BitVec.ofInt 64 (b : Int)).toNat = b := by rw [BitVec.toNat_ofInt]; omega
  show IntKind.i64.wrap ((BitVec.ofInt 64 (a : Int) ^^^ BitVec.ofInt 64 (b : Int)).toNat : Int) = _
  rw [BitVec.toNat_xor, h1, h2, IntKind.wrap_i64]
  omega
theorem len_any (x : Nat) (hx : x < 1099511627776 * 2) (w : World) : Calls Try.prog 32 #[.int .u64 (x : Int)] w fun e w' => e = .returned (.int .i64 (Lib.bitLen x)) ∧ w' = w := by
  have h := Any.bits_Len lenLies (x : Int) w (by omega) (by omega)
  rw [Int.toNat_natCast] at h
  exact h
theorem max_len (x : Nat) (hx : x < 2 ^ 64) : max (Lib.bitLen x) 1 - 1 = x.log2 := by
  by_cases h : x = 0
  · subst h
    rfl
  · rw [bitLen_pos x h hx]
    omega
theorem placeOf_any (p now at_ : Nat) (h1 : now ≤ 1099511627776) (h2 : at_ ≤ 1099511627776) (w : World) (c0 : w.cell? ⟨p, 0, none⟩ = some (.int .i64 (now : Int))) :
    Calls Try.prog 25 #[.pointer (some ⟨p, 0, none⟩), .int .i64 (at_ : Int)] w fun e w' => e = .returned (.tuple #[.int .i64 (lv now at_ : Nat), .int .i64 ((pl now at_ % 64 : Nat) : Int)]) ∧ (∃ q, w' = w.drewN q) := by
  have hx := bits_xor_i64 at_ now (by omega) (by omega)
  have hX : at_ ^^^ now < 1099511627776 * 2 := Nat.xor_lt_two_pow (n := 41) (by omega) (by omega)
  obtain ⟨x, hxx⟩ : ∃ x, at_ ^^^ now = x := ⟨_, rfl⟩
  rw [hxx] at hx hX
  have hw : IntKind.u64.wrap (x : Int) = x := by rw [IntKind.wrap_u64]; omega
  have hlen := fun W => len_any x hX W
  have hm := max_len x (by omega)
  have hx2 : x.log2 < 64 := by
    by_cases h0 : x = 0
    · rw [h0]
      decide
    · exact (Nat.log2_lt h0).2 (by omega)
  have hl : lv now at_ = x.log2 / 6 := by rw [← hxx, Nat.xor_comm]; rfl
  obtain ⟨b, hb⟩ : ∃ b, Lib.bitLen x = b := ⟨_, rfl⟩
  rw [hb] at hlen hm
  obtain ⟨h, hh⟩ : ∃ h, x.log2 = h := ⟨_, rfl⟩
  rw [hh] at hm hx2 hl
  obtain ⟨l, hll⟩ : ∃ l, lv now at_ = l := ⟨_, rfl⟩
  have z1 : IntKind.i64.wrap (max (b : Int) 1 - 1) = (h : Int) := by rw [IntKind.wrap_i64]; omega
  have z2 : IntKind.i64.wrap ((h : Int) / 6) = (l : Int) := by rw [IntKind.wrap_i64]; omega
  have l6 : l ≤ 10 := by omega
  have z3 : IntKind.i64.wrap ((l : Int) * 6) = ((6 * l : Nat) : Int) := by rw [IntKind.wrap_i64]; omega
  have hp : pl now at_ % 64 = at_ / 2 ^ (6 * l) % 64 := by rw [← hll]; exact pl_mod now at_
  rw [hll, hp]
  clear hp hll hl hm hb hh hxx hx2
  go_enter Try.func25, Try.ntmps25
  go_wp2_with (go_at_call 32; refine (hlen _).mono ?_; rintro e w' ⟨rfl, rfl⟩)
  go_quiet (fail)
  go_wp2
  go_ret2
  refine ⟨?_, nq, rfl⟩
  have e : ((at_ : Int) / 2 ^ (6 * l)).tmod 64 = ((at_ / 2 ^ (6 * l) % 64 : Nat) : Int) := by
    rw [show (at_ : Int) / 2 ^ (6 * l) = ((at_ / 2 ^ (6 * l) : Nat) : Int) by simp]
    exact (Int.ofNat_tmod _ 64).symm
  rw [e]
  rfl
end Go.Proofs.Ythnkkkiobbnpmaa
