/- The program's tape: Word, Below, Bytes. -/
import Derived.Test.YtecdjfafeeimfaaTaQ
namespace Go.Proofs.Ytecdjfafeeimfaa
open Go.RowKit Go.Proofs.Fd Go.Proofs.Ta
set_option maxRecDepth 20000

set_option maxHeartbeats 1000000 in
theorem Word_any (p : Nat) (l : List UInt8) (w : World) (R : Hid (TAt w p l)) :
    Calls Try.prog 27 #[.pointer (some ⟨p, 0, none⟩)] w fun e w' => e = .returned (.tuple #[.int .i64 (wordV l), .int .i64 (wordE l)]) ∧ TAt w' p (wordR l) ∧ But p p w w' := by
  unfold wordV wordE wordR
  by_cases q : l.length < 4
  · rw [if_pos q, if_pos q, if_pos q]
    have RS : Hid _ := word_no p l q w R.out
    go_enter Try.func27, Try.ntmps27
    go_wp2_with fail
    refine Calls.mono RS.out ?_
    rintro e w1 ⟨rfl, hb⟩
    have FI : Hid (TAt w1 p l ∧ But p p w w1) := ⟨R.out.later hb, But.of hb⟩
    clear hb RS R q
    go_wp2
    go_ret2
    exact ⟨rfl, FI.out⟩
  · rw [if_neg q, if_neg q, if_neg q]
    have RS : Hid _ := word_ok p l (by omega) w R.out
    have hn := num4_lt l
    obtain ⟨m, hm⟩ : ∃ m, num4 l = m := ⟨_, rfl⟩
    rw [hm] at RS hn ⊢
    have z : IntKind.i64.wrap (m : Int) = (m : Int) := by rw [IntKind.wrap_i64]; omega
    go_enter Try.func27, Try.ntmps27
    go_wp2_with fail
    refine Calls.mono RS.out ?_
    rintro e w1 ⟨rfl, ht, hb⟩
    have FI : Hid (TAt w1 p (l.drop 4) ∧ But p p w w1) := ⟨ht, hb⟩
    clear hb ht RS R q hm
    go_wp2
    go_ret2
    exact ⟨rfl, FI.out⟩
theorem bel_no {n : Int} {l : List UInt8} (h : n < 1 ∨ 2147483647 < n) : belV n l = 0 ∧ belE n l = 1 ∧ belR n l = l := ⟨if_pos h, if_pos h, if_pos h⟩
theorem bel_few {n : Int} {l : List UInt8} (h : ¬ (n < 1 ∨ 2147483647 < n)) (hl : l.length < 4) : belV n l = 0 ∧ belE n l = 120 ∧ belR n l = l := by
  unfold belV belE belR
  rw [if_neg h, if_neg h, if_neg h, if_pos hl, if_pos hl, if_pos hl]
  exact ⟨rfl, rfl, rfl⟩
theorem bel_ok {n : Int} {l : List UInt8} (h : ¬ (n < 1 ∨ 2147483647 < n)) (hl : ¬ l.length < 4) : belV n l = (drw n.toNat l : Int) ∧ belE n l = 0 ∧ belR n l = l.drop 4 := by
  unfold belV belE belR
  rw [if_neg h, if_neg h, if_neg h, if_neg hl, if_neg hl, if_neg hl]
  exact ⟨rfl, rfl, rfl⟩
theorem byt_no {n : Int} {l : List UInt8} (h : n < 0 ∨ 4096 < n) : bytV n l = [] ∧ bytE n l = 1 ∧ bytR n l = l := ⟨if_pos h, if_pos h, if_pos h⟩
theorem byt_few {n : Int} {l : List UInt8} (h : ¬ (n < 0 ∨ 4096 < n)) (hl : l.length < n.toNat) : bytV n l = [] ∧ bytE n l = 120 ∧ bytR n l = l := by
  unfold bytV bytE bytR
  rw [if_neg h, if_neg h, if_neg h, if_pos hl, if_pos hl, if_pos hl]
  exact ⟨rfl, rfl, rfl⟩
theorem byt_ok {n : Int} {l : List UInt8} (h : ¬ (n < 0 ∨ 4096 < n)) (hl : ¬ l.length < n.toNat) : bytV n l = l.take n.toNat ∧ bytE n l = 0 ∧ bytR n l = l.drop n.toNat := by
  unfold bytV bytE bytR
  rw [if_neg h, if_neg h, if_neg h, if_neg hl, if_neg hl, if_neg hl]
  exact ⟨rfl, rfl, rfl⟩
end Go.Proofs.Ytecdjfafeeimfaa
