/- The program's tape: Word, Below, Bytes. -/
import Derived.Test.YtfieabdjfhkpjaaTaQ
namespace Go.Proofs.Ytfieabdjfhkpjaa
open Go.RowKit Go.Proofs.Fd Go.Proofs.Ta
set_option maxRecDepth 20000

set_option maxHeartbeats 1000000 in
theorem Word_any (p : Nat) (l : List UInt8) (w : World) (R : Hid (TAt w p l)) :
    Calls Try.prog 18 #[.pointer (some ⟨p, 0, none⟩)] w fun e w' => e = .returned (.tuple #[.int .i64 (wordV l), .int .i64 (wordE l)]) ∧ TAt w' p (wordR l) ∧ But p p w w' := by
  unfold wordV wordE wordR
  by_cases q : l.length < 4
  · rw [if_pos q, if_pos q, if_pos q]
    have RS : Hid _ := word_no p l q w R.out
    go_enter Try.func18, Try.ntmps18
    go_wp2_with fail
    refine Calls.mono RS.out ?_
    rintro e w1 ⟨rfl, hb⟩
    have FI : Hid (TAt w1 p l ∧ But p p w w1) := ⟨R.out.later hb, But.of hb⟩
    clear hb RS R q
    go_wp2
    go_ret2
    exact ⟨rfl, FI.out⟩
  · rw [if_neg q, if_neg q, if_neg q]
    have RS : Hid _ := word_ok p l (by omega) w R.out
    have hn := num4_lt l
    obtain ⟨m, hm⟩ : ∃ m, num4 l = m := ⟨_, rfl⟩
    rw [hm] at RS hn ⊢
    have z : IntKind.i64.wrap (m : Int) = (m : Int) := by rw [IntKind.wrap_i64]; omega
    go_enter Try.func18, Try.ntmps18
    go_wp2_with fail
    refine Calls.mono RS.out ?_
    rintro e w1 ⟨rfl, ht, hb⟩
    have FI : Hid (TAt w1 p (l.drop 4) ∧ But p p w w1) := ⟨ht, hb⟩
    clear hb ht RS R q hm
    go_wp2
    go_ret2
    exact ⟨rfl, FI.out⟩
theorem bel_no {n : Int} {l : List UInt8} (h : n < 1 ∨ 2147483647 < n) : belV n l = 0 ∧ belE n l = 1 ∧ belR n l = l := ⟨if_pos h, if_pos h, if_pos h⟩
theorem bel_few {n : Int} {l : List UInt8} (h : ¬ (n < 1 ∨ 2147483647 < n)) (hl : l.length < 4) : belV n l = 0 ∧ belE n l = 120 ∧ belR n l = l := by
  unfold belV belE belR
  rw [if_neg h, if_neg h, if_neg h, if_pos hl, if_pos hl, if_pos hl]
  exact ⟨rfl, rfl, rfl⟩
theorem bel_ok {n : Int} {l : List UInt8} (h : ¬ (n < 1 ∨ 2147483647 < n)) (hl : ¬ l.length < 4) : belV n l = (drw n.toNat l : Int) ∧ belE n l = 0 ∧ belR n l = l.drop 4 := by
  unfold belV belE belR
  rw [if_neg h, if_neg h, if_neg h, if_neg hl, if_neg hl, if_neg hl]
  exact ⟨rfl, rfl, rfl⟩
set_option maxHeartbeats 1000000 in
theorem Below_any (p : Nat) (l : List UInt8) (n : Int) (w : World) (R : Hid (TAt w p l)) :
    Calls Try.prog 16 #[.pointer (some ⟨p, 0, none⟩), .int .i64 n] w fun e w' => e = .returned (.tuple #[.int .i64 (belV n l), .int .i64 (belE n l)]) ∧ TAt w' p (belR n l) ∧ But p p w w' := by
  by_cases h : n < 1 ∨ 2147483647 < n
  · obtain ⟨e1, e2, e3⟩ := bel_no (l := l) h
    rw [e1, e2, e3]
    clear e1 e2 e3
    by_cases h1 : n < 1
    · clear h
      go_enter Try.func16, Try.ntmps16
      go_wp2
      go_ret2
      exact ⟨rfl, R.out, But.refl _ _ _⟩
    · have h2 : 2147483647 < n := by omega
      clear h
      go_enter Try.func16, Try.ntmps16
      go_wp2
      go_ret2
      exact ⟨rfl, R.out, But.refl _ _ _⟩
  · have h1 : ¬ n < 1 := by omega
    have h2 : ¬ 2147483647 < n := by omega
    by_cases q : l.length < 4
    · obtain ⟨e1, e2, e3⟩ := bel_few h q
      rw [e1, e2, e3]
      clear e1 e2 e3 h
      have RS : Hid _ := word_no p l q w R.out
      go_enter Try.func16, Try.ntmps16
      go_wp2_with fail
      refine Calls.mono RS.out ?_
      rintro e w1 ⟨rfl, hb⟩
      have FI : Hid (TAt w1 p l ∧ But p p w w1) := ⟨R.out.later hb, But.of hb⟩
      clear hb RS R q
      go_wp2
      go_ret2
      exact ⟨rfl, FI.out⟩
    · obtain ⟨e1, e2, e3⟩ := bel_ok h q
      rw [e1, e2, e3]
      clear e1 e2 e3
      have RS : Hid _ := word_ok p l (by omega) w R.out
      obtain ⟨k, rfl⟩ : ∃ k : Nat, n = k := ⟨n.toNat, by omega⟩
      have ds := drw_small k l (by omega)
      have hn := num4_lt l
      have hd : drw k l = num4 l * k / 4294967296 := rfl
      rw [Int.toNat_natCast, hd]
      obtain ⟨m, hm⟩ : ∃ m, num4 l = m := ⟨_, rfl⟩
      rw [hm] at RS hn ds ⊢
      obtain ⟨mk, hmk⟩ : ∃ x, m * k = x := ⟨_, rfl⟩
      rw [hmk] at ds ⊢
      have z1 : IntKind.u64.wrap (m : Int) = (m : Int) := by rw [IntKind.wrap_u64]; omega
      have z2 : IntKind.u64.wrap (k : Int) = (k : Int) := by rw [IntKind.wrap_u64]; omega
      have z3 : IntKind.u64.wrap ((m : Int) * (k : Int)) = (mk : Int) := by rw [← Int.natCast_mul, hmk, IntKind.wrap_u64]; omega
      go_enter Try.func16, Try.ntmps16
      go_wp2_with fail
      refine Calls.mono RS.out ?_
      rintro e w1 ⟨rfl, ht, hb⟩
      have FI : Hid (TAt w1 p (l.drop 4) ∧ But p p w w1) := ⟨ht, hb⟩
      clear hb ht RS R q hm hd
      go_wp2
      go_ret2
      exact ⟨rfl, FI.out⟩
theorem byt_no {n : Int} {l : List UInt8} (h : n < 0 ∨ 4096 < n) : bytV n l = [] ∧ bytE n l = 1 ∧ bytR n l = l := ⟨if_pos h, if_pos h, if_pos h⟩
theorem byt_few {n : Int} {l : List UInt8} (h : ¬ (n < 0 ∨ 4096 < n)) (hl : l.length < n.toNat) : bytV n l = [] ∧ bytE n l = 120 ∧ bytR n l = l := by
  unfold bytV bytE bytR
  rw [if_neg h, if_neg h, if_neg h, if_pos hl, if_pos hl, if_pos hl]
  exact ⟨rfl, rfl, rfl⟩
theorem byt_ok {n : Int} {l : List UInt8} (h : ¬ (n < 0 ∨ 4096 < n)) (hl : ¬ l.length < n.toNat) : bytV n l = l.take n.toNat ∧ bytE n l = 0 ∧ bytR n l = l.drop n.toNat := by
  unfold bytV bytE bytR
  rw [if_neg h, if_neg h, if_neg h, if_neg hl, if_neg hl, if_neg hl]
  exact ⟨rfl, rfl, rfl⟩
set_option maxHeartbeats 1000000 in
theorem Bytes_any (p : Nat) (l : List UInt8) (n : Int) (w : World) (R : Hid (TAt w p l)) :
    Calls Try.prog 17 #[.pointer (some ⟨p, 0, none⟩), .int .i64 n] w fun e w' => e = .returned (.tuple #[.string ⟨(bytV n l).toArray⟩, .int .i64 (bytE n l)]) ∧ TAt w' p (bytR n l) ∧ But p p w w' := by
  by_cases h : n < 0 ∨ 4096 < n
  · obtain ⟨e1, e2, e3⟩ := byt_no (l := l) h
    rw [e1, e2, e3]
    clear e1 e2 e3
    by_cases h1 : n < 0
    · clear h
      go_enter Try.func17, Try.ntmps17
      go_wp2
      go_ret2
      exact ⟨rfl, R.out, But.refl _ _ _⟩
    · have h2 : 4096 < n := by omega
      clear h
      go_enter Try.func17, Try.ntmps17
      go_wp2
      go_ret2
      exact ⟨rfl, R.out, But.refl _ _ _⟩
  · have h1 : ¬ n < 0 := by omega
    have h2 : ¬ 4096 < n := by omega
    obtain ⟨k, rfl⟩ : ∃ k : Nat, n = k := ⟨n.toNat, by omega⟩
    by_cases q : l.length < k
    · obtain ⟨e1, e2, e3⟩ := byt_few h (by simpa using q)
      rw [e1, e2, e3]
      clear e1 e2 e3 h
      have RS : Hid _ := take_no p l k q w R.out
      have CL : Hid (∀ w, Calls Try.prog 28 #[.string ⟨#[]⟩] w fun e w' => e = .returned (.string ⟨#[]⟩) ∧ Below w.heap.size w w') := fun w => sclone_any ⟨#[]⟩ (by decide) w
      go_enter Try.func17, Try.ntmps17
      go_wp2_with fail
      refine Calls.mono RS.out ?_
      rintro e w1 ⟨rfl, hb⟩
      have F1 : Hid (TAt w1 p l ∧ But p p w w1) := ⟨R.out.later hb, But.of hb⟩
      clear hb RS R q
      go_wp2_with fail
      refine Calls.mono (CL.out _) ?_
      rintro e w2 ⟨rfl, hb⟩
      have FI : Hid (TAt w2 p l ∧ But p p w w2) := ⟨F1.out.1.later hb, F1.out.2.later hb⟩
      clear hb F1 CL
      go_wp2
      go_ret2
      exact ⟨rfl, FI.out⟩
    · obtain ⟨e1, e2, e3⟩ := byt_ok h (by simpa using q)
      rw [e1, e2, e3]
      rw [Int.toNat_natCast]
      clear e1 e2 e3
      have RS : Hid _ := take_ok p l k (by omega) w R.out
      have CL : Hid (∀ w, Calls Try.prog 28 #[.string ⟨(l.take k).toArray⟩] w fun e w' => e = .returned (.string ⟨(l.take k).toArray⟩) ∧ Below w.heap.size w w') := fun w => sclone_any ⟨(l.take k).toArray⟩ (by rw [ba_size, List.length_take]; omega) w
      obtain ⟨S, hS⟩ : ∃ S : ByteArray, ⟨(l.take k).toArray⟩ = S := ⟨_, rfl⟩
      rw [hS] at RS CL ⊢
      go_enter Try.func17, Try.ntmps17
      go_wp2_with fail
      refine Calls.mono RS.out ?_
      rintro e w1 ⟨rfl, ht, hb⟩
      have F1 : Hid (TAt w1 p (l.drop k) ∧ But p p w w1) := ⟨ht, hb⟩
      clear hb ht RS R q hS
      go_wp2_with fail
      refine Calls.mono (CL.out _) ?_
      rintro e w2 ⟨rfl, hb⟩
      have FI : Hid (TAt w2 p (l.drop k) ∧ But p p w w2) := ⟨F1.out.1.later hb, F1.out.2.later hb⟩
      clear hb F1 CL
      go_wp2
      go_ret2
      exact ⟨rfl, FI.out⟩
end Go.Proofs.Ytfieabdjfhkpjaa
