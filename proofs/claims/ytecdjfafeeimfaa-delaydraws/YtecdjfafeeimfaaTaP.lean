/- The program's tape: its reader's calls; New, Left, Fork. -/
import Derived.Test.YtecdjfafeeimfaaTaB
import Derived.Test.YtecdjfafeeimfaaMlK
namespace Go.Proofs.Ytecdjfafeeimfaa
open Go.RowKit Go.Proofs.Fd Go.Proofs.Ta
set_option maxRecDepth 20000

theorem TAt.read {w : World} {p : Nat} {t : ByteArray} {r : Nat} (h1 : w.cell? ⟨p, 0, none⟩ = some (.string t)) (h2 : w.cell? ⟨p, 1, none⟩ = some (.int .i64 (r : Int))) (h3 : ∀ o, w.frozen? ⟨p, o, none⟩ = false) (h5 : t.size ≤ 140737488351232) (n : Nat) (hn : r + n ≤ t.size) :
    TAt (w.setCell ⟨p, 1, none⟩ (.int .i64 ((r + n : Nat) : Int))) p ((t.data.toList.drop r).drop n) := by
  refine ⟨t, r + n, by simp [go_sem, h1], by simp [go_sem, h2], fun o => by simp [go_sem, h3], hn, h5, ?_⟩
  rw [List.drop_drop]
set_option maxHeartbeats 1000000 in
theorem rest_any (p : Nat) (l : List UInt8) (w : World) (R : Hid (TAt w p l)) :
    Calls Try.prog 28 #[.pointer (some ⟨p, 0, none⟩)] w fun e w' => e = .returned (.string ⟨l.toArray⟩) ∧ Below w.heap.size w w' := by
  obtain ⟨t, r, h1, h2, h3, h4, h5, h6⟩ := R.out
  rw [← h6, ← ba_drop]
  have q : (r : Int) ≤ (t.size : Int) := by omega
  clear R h3 h5 h6
  go_enter Try.func28, Try.ntmps28
  go_wp2
  go_quiet (fail)
  go_wp2
  go_ret
  exact ⟨rfl, below_drewN (Below.refl _ _) _⟩
set_option maxHeartbeats 1000000 in
theorem take_ok (p : Nat) (l : List UInt8) (n : Nat) (hn : n ≤ l.length) (w : World) (R : Hid (TAt w p l)) :
    Calls Try.prog 38 #[.pointer (some ⟨p, 0, none⟩), .int .i64 (n : Int)] w fun e w' => e = .returned (.tuple #[.string ⟨(l.take n).toArray⟩, .int .i64 0]) ∧ TAt w' p (l.drop n) ∧ But p p w w' := by
  obtain ⟨S, hS⟩ : ∃ S : ByteArray, ⟨l.toArray⟩ = S := ⟨_, rfl⟩
  have hz : S.size = l.length := by rw [← hS]; exact ba_size l
  have RS := rest_any p l w R.out
  rw [hS] at RS
  have hT : (⟨(l.take n).toArray⟩ : ByteArray) = S.extract 0 n := by rw [← hS, ba_take]
  rw [hT]
  have q1 : ¬ (S.size : Int) < (n : Int) := by omega
  have q2 : (n : Int) ≤ (S.size : Int) := by omega
  have HR : Hid _ := RS
  clear RS hT
  go_enter Try.func38, Try.ntmps38
  go_wp2_with fail
  refine Calls.mono HR.out ?_
  rintro e w1 ⟨rfl, hb⟩
  obtain ⟨t, r, h1, h2, h3, h4, h5, h6⟩ := R.out.later hb
  have hl : l.length = t.size - r := by rw [← h6, List.length_drop]; simp
  have z1 : IntKind.i64.wrap ((r : Int) + (n : Int)) = ((r + n : Nat) : Int) := by rw [IntKind.wrap_i64]; omega
  have HT := TAt.read h1 h2 h3 h5 n (by omega)
  rw [h6] at HT
  have FI : Hid (TAt (w1.setCell ⟨p, 1, none⟩ (.int .i64 ((r + n : Nat) : Int))) p (l.drop n) ∧ But p p w (w1.setCell ⟨p, 1, none⟩ (.int .i64 ((r + n : Nat) : Int)))) := ⟨HT, (But.of hb).setCell _ _⟩
  obtain ⟨m, hm⟩ : ∃ m, r + n = m := ⟨_, rfl⟩
  rw [hm] at z1 FI
  clear HT HR hb h4 h5 h6 hl hm hn R hz
  go_wp2
  go_ret2
  exact ⟨rfl, FI.out⟩
set_option maxHeartbeats 1000000 in
theorem take_no (p : Nat) (l : List UInt8) (n : Nat) (hn : l.length < n) (w : World) (R : Hid (TAt w p l)) :
    Calls Try.prog 38 #[.pointer (some ⟨p, 0, none⟩), .int .i64 (n : Int)] w fun e w' => e = .returned (.tuple #[.string ⟨#[]⟩, .int .i64 120]) ∧ Below w.heap.size w w' := by
  obtain ⟨S, hS⟩ : ∃ S : ByteArray, ⟨l.toArray⟩ = S := ⟨_, rfl⟩
  have hz : S.size = l.length := by rw [← hS]; exact ba_size l
  have RS := rest_any p l w R.out
  rw [hS] at RS
  have q1 : (S.size : Int) < (n : Int) := by omega
  have HR : Hid _ := RS
  clear RS
  go_enter Try.func38, Try.ntmps38
  go_wp2_with fail
  refine Calls.mono HR.out ?_
  rintro e w1 ⟨rfl, hb⟩
  have FI : Hid (Below w.heap.size w w1) := hb
  clear HR hb R
  go_wp2
  go_ret2
  exact ⟨rfl, FI.out⟩
theorem wr32 (n : Int) (h₀ : 0 ≤ n) (h₁ : n < 2 ^ 32) : IntKind.u32.wrap n = n := by rw [IntKind.wrap_u32]; omega
theorem or_high (a b c d : Nat) (hb : b < 256) (hc : c < 256) (hd : d < 256) : a * 16777216 ||| b * 65536 ||| c * 256 ||| d = a * 16777216 + b * 65536 + c * 256 + d := by
  have e1 : a * 16777216 ||| b * 65536 = (a * 256 + b) * 65536 := by
    have := Nat.shiftLeft_add_eq_or_of_lt (show b * 65536 < 2 ^ 24 by omega) a
    rw [Nat.shiftLeft_eq] at this
    rw [show a * 16777216 = a * 2 ^ 24 from rfl, ← this]; omega
  have e2 : (a * 256 + b) * 65536 ||| c * 256 = (a * 65536 + b * 256 + c) * 256 := by
    have := Nat.shiftLeft_add_eq_or_of_lt (show c * 256 < 2 ^ 16 by omega) (a * 256 + b)
    rw [Nat.shiftLeft_eq] at this
    rw [show (a * 256 + b) * 65536 = (a * 256 + b) * 2 ^ 16 from rfl, ← this]; omega
  have e3 : (a * 65536 + b * 256 + c) * 256 ||| d = (a * 65536 + b * 256 + c) * 256 + d := by
    have := Nat.shiftLeft_add_eq_or_of_lt (show d < 2 ^ 8 by omega) (a * 65536 + b * 256 + c)
    rw [Nat.shiftLeft_eq] at this
    rw [show (a * 65536 + b * 256 + c) * 256 = (a * 65536 + b * 256 + c) * 2 ^ 8 from rfl, ← this]
  rw [e1, e2, e3]; omega
theorem or_word (c0 c1 c2 c3 : UInt8) : bits .or .u32 (bits .or .u32 (bits .or .u32 ((c0.toNat : Int) % 4294967296 * 16777216 % 4294967296) ((c1.toNat : Int) % 4294967296 * 65536 % 4294967296)) ((c2.toNat : Int) % 4294967296 * 256 % 4294967296)) ((c3.toNat : Int) % 4294967296) = ((c0.toNat * 16777216 + c1.toNat * 65536 + c2.toNat * 256 + c3.toNat : Nat) : Int) := by
  have q0 := c0.toNat_lt
  have q1 := c1.toNat_lt
  have q2 := c2.toNat_lt
  have q3 := c3.toNat_lt
  rw [show (c3.toNat : Int) % 4294967296 = (c3.toNat : Int) by omega, show (c2.toNat : Int) % 4294967296 * 256 % 4294967296 = ((c2.toNat * 256 : Nat) : Int) by omega, show (c1.toNat : Int) % 4294967296 * 65536 % 4294967296 = ((c1.toNat * 65536 : Nat) : Int) by omega, show (c0.toNat : Int) % 4294967296 * 16777216 % 4294967296 = ((c0.toNat * 16777216 : Nat) : Int) by omega]
  have e1 := (bits_nat .u32 32 (by decide) wr32 (c0.toNat * 16777216) (c1.toNat * 65536) (by omega) (by omega)).2
  have l1 : c0.toNat * 16777216 ||| c1.toNat * 65536 < 2 ^ 32 := Nat.or_lt_two_pow (by omega) (by omega)
  have e2 := (bits_nat .u32 32 (by decide) wr32 (c0.toNat * 16777216 ||| c1.toNat * 65536) (c2.toNat * 256) l1 (by omega)).2
  have l2 : c0.toNat * 16777216 ||| c1.toNat * 65536 ||| c2.toNat * 256 < 2 ^ 32 := Nat.or_lt_two_pow l1 (by omega)
  have e3 := (bits_nat .u32 32 (by decide) wr32 (c0.toNat * 16777216 ||| c1.toNat * 65536 ||| c2.toNat * 256) c3.toNat l2 (by omega)).2
  rw [e1, e2, e3, or_high _ _ _ _ (by omega) (by omega) (by omega)]
set_option maxHeartbeats 1000000 in
theorem word_ok (p : Nat) (l : List UInt8) (hn : 4 ≤ l.length) (w : World) (R : Hid (TAt w p l)) :
    Calls Try.prog 35 #[.pointer (some ⟨p, 0, none⟩)] w fun e w' => e = .returned (.tuple #[.int .u32 (num4 l : Int), .int .i64 0]) ∧ TAt w' p (l.drop 4) ∧ But p p w w' := by
  have RS : Hid _ := take_ok p l 4 hn w R.out
  obtain ⟨S, hS⟩ : ∃ S : ByteArray, ⟨(l.take 4).toArray⟩ = S := ⟨_, rfl⟩
  have hz : S.size = 4 := by rw [← hS, ba_size, List.length_take]; omega
  rw [hS] at RS
  have l0 : 0 < S.size := by omega
  have l1 : 1 < S.size := by omega
  have l2 : 2 < S.size := by omega
  have l3 : 3 < S.size := by omega
  obtain ⟨x0, hx0⟩ : ∃ c, S[0] = c := ⟨_, rfl⟩
  obtain ⟨x1, hx1⟩ : ∃ c, S[1] = c := ⟨_, rfl⟩
  obtain ⟨x2, hx2⟩ : ∃ c, S[2] = c := ⟨_, rfl⟩
  obtain ⟨x3, hx3⟩ : ∃ c, S[3] = c := ⟨_, rfl⟩
  have EV : num4 l = x0.toNat * 16777216 + x1.toNat * 65536 + x2.toNat * 256 + x3.toNat := by
    subst hS
    have e : ∀ k (hk : k < 4) (q : k < (⟨(l.take 4).toArray⟩ : ByteArray).size), (⟨(l.take 4).toArray⟩ : ByteArray)[k] = l.getD k 0 := fun k hk q => by
      show (l.take 4).toArray[k] = _
      rw [List.getD_eq_getElem?_getD, List.getElem?_eq_getElem (by omega)]
      simp
    rw [← hx0, ← hx1, ← hx2, ← hx3, e 0 (by omega), e 1 (by omega), e 2 (by omega), e 3 (by omega)]
    rfl
  rw [EV]
  have OW : Hid (_ = _) := or_word x0 x1 x2 x3
  have z0 : (0 : Int) < (S.size : Int) := by omega
  have z1 : (1 : Int) < (S.size : Int) := by omega
  have z2 : (2 : Int) < (S.size : Int) := by omega
  have z3 : (3 : Int) < (S.size : Int) := by omega
  clear EV hz hS R
  go_enter Try.func35, Try.ntmps35
  go_wp2_with fail
  refine Calls.mono RS.out ?_
  rintro e w1 ⟨rfl, ht, hb⟩
  have FI : Hid (TAt w1 p (l.drop 4) ∧ But p p w w1) := ⟨ht, hb⟩
  clear ht hb RS
  go_wp2
  go_quiet (fail)
  rw [OW.out]
  go_wp2
  go_ret2
  exact ⟨rfl, FI.out.1.later (below_drewN (Below.refl _ _) _), FI.out.2.later (below_drewN (Below.refl _ _) _)⟩
set_option maxHeartbeats 1000000 in
theorem word_no (p : Nat) (l : List UInt8) (hn : l.length < 4) (w : World) (R : Hid (TAt w p l)) :
    Calls Try.prog 35 #[.pointer (some ⟨p, 0, none⟩)] w fun e w' => e = .returned (.tuple #[.int .u32 0, .int .i64 120]) ∧ Below w.heap.size w w' := by
  have RS : Hid _ := take_no p l 4 hn w R.out
  clear R
  go_enter Try.func35, Try.ntmps35
  go_wp2_with fail
  refine Calls.mono RS.out ?_
  rintro e w1 ⟨rfl, hb⟩
  have FI : Hid (Below w.heap.size w w1) := hb
  clear hb RS
  go_wp2
  go_ret2
  exact ⟨rfl, FI.out⟩
end Go.Proofs.Ytecdjfafeeimfaa
