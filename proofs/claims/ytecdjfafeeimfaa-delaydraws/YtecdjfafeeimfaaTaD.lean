/- The document's tape: Word, Below, Bytes. -/
import Derived.Test.YtecdjfafeeimfaaTaR
namespace Go.Proofs.Ytecdjfafeeimfaa
open Go.RowKit Go.Proofs.Fd Go.Proofs.Ta
set_option maxRecDepth 20000

/-- What i bytes are as a number. -/
def pre (S : ByteArray) : Nat → Nat
  | 0 => 0
  | i + 1 => pre S i * 256 + (S.data.toList.getD i 0).toNat
theorem pre_lt (S : ByteArray) : ∀ i, i ≤ 4 → pre S i < 256 ^ i := by
  intro i
  induction i with
  | zero => intro _; exact Nat.zero_lt_one
  | succ i ih =>
    intro h
    have := ih (by omega)
    have := (S.data.toList.getD i 0).toNat_lt
    show pre S i * 256 + _ < 256 ^ (i + 1)
    rw [Nat.pow_succ]
    omega
theorem pre_4 (l : List UInt8) : pre ⟨l.toArray⟩ 4 = num4 l := by
  show (((0 * 256 + (l.getD 0 0).toNat) * 256 + (l.getD 1 0).toNat) * 256 + (l.getD 2 0).toNat) * 256 + (l.getD 3 0).toNat = num4 l
  unfold num4
  omega
set_option maxHeartbeats 1000000 in
theorem rword_any (d : Nat) (l : List UInt8) (w : World) (R : Hid (DAt w d l)) :
    Calls Try.prog 29 #[.pointer (some ⟨d, 0, none⟩)] w fun e w' => e = .returned (.tuple #[.int .i64 (wordV l), .int .i64 (wordE l)]) ∧ DAt w' d (wordR l) ∧ But d d w w' := by
  have c0 := R.out.1
  obtain ⟨S, hS⟩ : ∃ S : ByteArray, ⟨l.toArray⟩ = S := ⟨_, rfl⟩
  have hz : S.size = l.length := by rw [← hS]; exact ba_size l
  rw [hS] at c0
  unfold wordV wordE wordR
  by_cases q : l.length < 4
  · rw [if_pos q, if_pos q, if_pos q]
    have q1 : (S.size : Int) < 4 := by omega
    clear hS
    go_enter Try.func29, Try.ntmps29
    go_wp2
    go_ret2
    exact ⟨rfl, R.out, But.refl _ _ _⟩
  · rw [if_neg q, if_neg q, if_neg q]
    have q1 : ¬ (S.size : Int) < 4 := by omega
    have q2 : (4 : Int) ≤ (S.size : Int) := by omega
    have P4 : Hid (pre S 4 = num4 l) := by rw [← hS]; exact pre_4 l
    rw [← P4.out]
    have FI : Hid (DAt (w.setCell ⟨d, 0, none⟩ (.string (S.extract 4 S.size))) d (l.drop 4) ∧ But d d w (w.setCell ⟨d, 0, none⟩ (.string (S.extract 4 S.size)))) := by
      rw [← hS, ba_from]
      exact ⟨R.out.put (by rw [List.length_drop]; omega), (But.refl _ _ _).setCell _ _⟩
    have f0 := R.out.2.1 0
    clear hS R q P4 hz
    go_enter Try.func29, Try.ntmps29
    go_wp2
    go_loopw [4, 5] (fun x i wr => ∃ k : Nat, k ≤ 4 ∧ i = .int .i64 (k : Int) ∧ x = .int .i64 (pre S k : Int) ∧ w = wr) (fun _ i _ => 4 - (intOf i).toNat)
    case atStart => exact ⟨0, by omega, rfl, rfl, rfl⟩
    case round =>
      obtain ⟨k, hk, rfl, rfl, hw⟩ := hrel
      subst hw
      by_cases hlt : k < 4
      · have g1 : (k : Int) < 4 := by omega
        have g2 : k < S.size := by omega
        have g3 : (k : Int) < (S.size : Int) := by omega
        have hp := pre_lt S k (by omega)
        have hp2 : pre S k < 16777216 := Nat.lt_of_lt_of_le hp (by rcases (by omega : k = 0 ∨ k = 1 ∨ k = 2 ∨ k = 3) with rfl | rfl | rfl | rfl <;> decide)
        obtain ⟨c, hc⟩ : ∃ c, S[k] = c := ⟨_, rfl⟩
        have hs : Hid (pre S (k + 1) = pre S k * 256 + c.toNat) := by
          show pre S k * 256 + _ = _
          rw [List.getD_eq_getElem?_getD, List.getElem?_eq_getElem (by simpa using g2), ← hc]
          rfl
        obtain ⟨m, hm⟩ : ∃ m, pre S k = m := ⟨_, rfl⟩
        rw [hm] at hs hp2 ⊢
        have hc2 := c.toNat_lt
        have z1 : IntKind.i64.wrap ((m : Int) * 256) = (m : Int) * 256 := by rw [IntKind.wrap_i64]; omega
        have z2 : IntKind.i64.wrap (c.toNat : Int) = (c.toNat : Int) := by rw [IntKind.wrap_i64]; omega
        have z3 : IntKind.i64.wrap ((m : Int) * 256 + (c.toNat : Int)) = (m : Int) * 256 + (c.toNat : Int) := by rw [IntKind.wrap_i64]; omega
        clear hp hm
        go_wp2
        go_roundw
        case rel => exact ⟨k + 1, by omega, by go_num, by rw [hs.out]; push_cast; rfl, trivial⟩
        case measure => simp [intOf]; omega
      · obtain rfl : k = 4 := by omega
        rw [show ((4 : Nat) : Int) = 4 from rfl]
        go_wp2
        go_ret2
        exact ⟨rfl, FI.out⟩
end Go.Proofs.Ytecdjfafeeimfaa
