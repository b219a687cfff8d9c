/- WheelFull. -/
import Derived.Test.YthnkkkiobbnpmaaWhLa
namespace Go.Proofs.Ythnkkkiobbnpmaa
open Go.RowKit Go.Proofs.Fd Go.Proofs.Wh
set_option maxRecDepth 20000

def ff (A : Nat) (i : Nat) : Nat := A + i % 4096
theorem ff_ok {A : Nat} (h1 : 1 ≤ A) (h2 : A ≤ 1000) : ∀ i, 1 ≤ ff A i ∧ ff A i ≤ maxT := fun i => by
  unfold ff maxT
  have := Nat.mod_lt i (show 0 < 4096 by decide)
  omega
theorem putS_no {s : St} {a id : Int} (h : putE s a ≠ 0) : putS s a id = s := by unfold putS; rw [if_neg h]
/-- Of a full wheel one is taken away. -/
theorem full_can {A N : Nat} (hN : N = 4096) (h1 : 1 ≤ A) (h2 : A ≤ 1000) : canE (pk (ff A) N) (1 + A : Nat) = 0 ∧ (canS (pk (ff A) N) (1 + A : Nat)).now ≤ A ∧ (canS (pk (ff A) N) (1 + A : Nat)).many = 4096 ∧ (canS (pk (ff A) N) (1 + A : Nat)).l.length = 4095 := by
  have PK := pk_is (ff_ok h1 h2) N (by rw [hN]; exact Nat.le_refl _)
  have hm := PK.all A (by omega)
  have hl := PK.len
  refine ⟨?_, ?_, PK.many.trans hN, ?_⟩
  · unfold canE
    rw [if_pos]
    unfold has
    rw [List.any_eq_true]
    exact ⟨_, hm, by simp; omega⟩
  · show (pk (ff A) N).now ≤ A
    rw [PK.now]
    omega
  · have := strike_length PK.ok.apart hm
    rw [hl] at this
    have e : ((⟨ff A A, A + 1, (A : Int)⟩ : Tm).n : Int) = ((1 + A : Nat) : Int) := by show ((A + 1 : Nat) : Int) = _; omega
    show ((pk (ff A) N).l.filter _).length = 4095
    rw [← e]
    omega
theorem full_adv {A N : Nat} (hN : N = 4096) (h1 : 1 ≤ A) (h2 : A ≤ 1000) : advE (pk (ff A) N) A = 0 ∧ (advV (pk (ff A) N) A).length = 1 ∧ (advS (pk (ff A) N) A).now ≤ A ∧ (advS (pk (ff A) N) A).many = 4096 ∧ (advS (pk (ff A) N) A).l.length = 4095 := by
  have PK := pk_is (ff_ok h1 h2) N (by rw [hN]; exact Nat.le_refl _)
  have n1 : (pk (ff A) N).now ≤ A := by rw [PK.now]; omega
  have n2 : A ≤ maxT := by unfold maxT; omega
  have hm := PK.all 0 (by omega)
  have hs := strike_length PK.ok.apart hm
  have er : rest A (pk (ff A) N).l = (pk (ff A) N).l.filter fun x => !decide ((x.n : Int) = ((⟨ff A 0, 0 + 1, ((0 : Nat) : Int)⟩ : Tm).n : Int)) := by
    unfold rest
    refine List.filter_congr fun x hx => ?_
    obtain ⟨i, hi, rfl⟩ := PK.mem x hx
    by_cases h0 : i = 0
    · subst h0
      simp [ff]
    · have e1 : i % 4096 = i := Nat.mod_eq_of_lt (by omega)
      have x1 : ¬ ((ff A i : Nat) : Int) ≤ (A : Int) := by unfold ff; omega
      have x2 : ¬ ((i + 1 : Nat) : Int) = ((0 + 1 : Nat) : Int) := by omega
      simp only [x1, x2, decide_false]
  rw [PK.len] at hs
  have hd := due_len A (pk (ff A) N).l
  rw [er, PK.len] at hd
  rw [advE_ok n1 n2, advV_ok n1 n2, advS_ok n1 n2, List.length_map]
  refine ⟨rfl, by omega, Nat.le_refl _, PK.many.trans hN, ?_⟩
  show (rest A (pk (ff A) N).l).length = 4095
  rw [er]
  omega
set_option maxHeartbeats 4000000 in
theorem WheelFull_walk (x : Int) (cb : Bool) (w : World) :
    Calls Try.prog 6 #[.int .i64 x, .bool cb] w fun e w' => e = .returned (.bool true) ∧ Below w.heap.size w w' := by
  obtain ⟨A, hA⟩ : ∃ A, ud 1000 x = A := ⟨_, rfl⟩
  have z := ud_form 1000 (by decide) (by decide) x
  have hA2 := ud_le 1000 (by decide) x
  rw [hA] at z hA2
  have z' : wrap64 (1 + wrap64 ((IntKind.u64.wrap x).tmod 1000)) = (A : Int) := z
  clear z hA
  obtain ⟨a1, a2⟩ := hA2
  obtain ⟨N, hN⟩ : ∃ N, N = 4096 := ⟨_, rfl⟩
  have HN : Hid (N = 4096) := hN
  clear hN
  go_enter Try.func6, Try.ntmps6
  go_wp2_with fail
  refine Calls.mono (newL w w (Below.refl _ _)) ?_
  rintro e w1 ⟨p, F, rfl, h1, h2, h3⟩
  have I0' : Hid (Wl w w1 p F St.init) := h1
  clear h1 h2 h3
  have WK : Hid _ := works_any w1
  go_wp2_with fail
  refine Calls.mono WK.out ?_
  rintro e w2 ⟨rfl, hb2⟩
  have I0 : Hid (Wl w w2 p F (pk (ff A) 0)) := I0'.out.later hb2
  clear I0' hb2 WK
  go_wp2
  rw [z']
  clear z'
  go_loopw [29] (fun i wr => ∃ (k : Nat) (G : Nat → Prop), k ≤ 4096 ∧ i = .int .i64 (k : Int) ∧ Hid (Wl w wr p G (pk (ff A) k))) (fun i wr => 4096 - (intOf i).toNat)
  case atStart => exact ⟨0, F, by omega, rfl, I0.out⟩
  case round =>
    obtain ⟨k, G, hk, rfl, I⟩ := hrel
    clear I0
    by_cases hlt : k < 4096
    · have g1 : (k : Int) < 4096 := by omega
      have zz : wrap64 ((A : Int) + (k : Int)) = (A : Int) + (k : Int) := by unfold wrap64; omega
      have ez : (ff A k : Int) = (A : Int) + (k : Int) := by unfold ff; rw [Nat.mod_eq_of_lt hlt]; omega
      have PK := pk_is (ff_ok a1 a2) k (show k ≤ 4096 by omega)
      have P := putL w wr p G (pk (ff A) k) (ff A k : Int) (k : Int) ⟨by omega, by omega⟩ (by rw [PK.many]; omega) I.out
      rw [pk_putE (ff_ok a1 a2) (show k < maxI from hlt), ez] at P
      have PP : Hid _ := P
      have EZ : Hid (putS (pk (ff A) k) ((A : Int) + (k : Int)) k = pk (ff A) (k + 1)) := by show _ = _; rw [← ez]; rfl
      clear P PK ez
      go_wp2_with fail
      refine Calls.mono PP.out ?_
      rintro e w3 ⟨rfl, G', h1, h2, h3⟩
      have J : Hid (Wl w w3 p G' (pk (ff A) (k + 1))) := by rw [EZ.out] at h1; exact h1
      clear h1 h2 h3 PP zz I
      go_wp2
      go_roundw
      case rel => exact ⟨k + 1, G', by omega, by go_num, J.out⟩
      case measure => simp [intOf]; omega
    · have hk' : k = 4096 := by omega
      have g1 : ¬ (k : Int) < 4096 := by omega
      have PK := pk_is (ff_ok a1 a2) N (by rw [HN.out]; exact Nat.le_refl _)
      have I4 : Hid (Wl w wr p G (pk (ff A) N)) := by have := I.out; rw [hk', ← HN.out] at this; exact this
      have el : putE (pk (ff A) N) (A : Int) = 2 := putE_long (by rw [PK.now]; omega) (show A ≤ 1099511627776 by omega) (by rw [PK.len, HN.out]; decide)
      have P := putL w wr p G (pk (ff A) N) (A : Int) 0 (by decide) (by rw [PK.many, HN.out]; decide) I4.out
      rw [putS_no (by rw [el]; decide), el] at P
      have PP : Hid _ := P
      have LE : Hid (∀ (W : World) (G : Nat → Prop), Wl w W p G (pk (ff A) N) → Calls Try.prog 23 #[.pointer (some ⟨p, 0, none⟩)] W fun e w' => e = .returned (.int .i64 4096) ∧ w' = W) := fun W G hW => by
        have := lenW_any p G _ W hW.at_
        rw [PK.len, HN.out] at this
        exact this
      have MK : Hid ((pk (ff A) N).many = 4096) := PK.many.trans HN.out
      clear P el PK I I4 hk' hlt
      go_wp2_with fail
      refine Calls.mono PP.out ?_
      rintro e w4 ⟨rfl, G4, h4, -, -⟩
      have I4 : Hid (Wl w w4 p G4 (pk (ff A) N)) := h4
      clear h4 PP
      have zA : wrap64 (1 + (A : Int)) = ((1 + A : Nat) : Int) := by unfold wrap64; omega
      have zB : wrap64 ((A : Int) + 1) = (A : Int) + 1 := by unfold wrap64; omega
      cases cb with
      | true =>
        have C := canL w w4 p G4 (pk (ff A) N) ((1 + A : Nat) : Int) ⟨by omega, by omega⟩ (by rw [MK.out]; decide) I4.out
        have fc := full_can HN.out a1 a2
        rw [fc.1] at C
        obtain ⟨s, hs⟩ : ∃ s, canS (pk (ff A) N) ((1 + A : Nat) : Int) = s := ⟨_, rfl⟩
        rw [hs] at C fc
        have CC : Hid _ := C
        have FC : Hid (s.now ≤ A ∧ s.many = 4096 ∧ s.l.length = 4095) := fc.2
        clear C fc hs
        go_wp2_with (go_at_call 23; refine Calls.mono (LE.out _ _ I4.out) ?_; rintro e w5 ⟨rfl, rfl⟩)
        refine Calls.mono CC.out ?_
        rintro e w6 ⟨rfl, G6, h6, -, -⟩
        have SS : Hid (Wl w w6 p G6 s ∧ s.now ≤ A ∧ s.many = 4096 ∧ s.l.length = 4095) := ⟨h6, FC.out⟩
        clear h6 CC FC LE I4 zA
        have PA : Hid (∀ (W : World) (G : Nat → Prop), Wl w W p G s → Calls Try.prog 12 #[.pointer (some ⟨p, 0, none⟩), .int .i64 ((A : Int) + 1), .int .i64 0] W fun e w' => e = .returned (.tuple #[.int .i64 (putV s (A + 1 : Nat)), .int .i64 0]) ∧ ∃ G', Wl w w' p G' (putS s (A + 1 : Nat) 0)) := fun W G hW => by
          have := putL w W p G s ((A + 1 : Nat) : Int) 0 (by decide) (by rw [SS.out.2.2.1]; decide) hW
          rw [putE_ok (show s.now < A + 1 by have := SS.out.2.1; omega) (show A + 1 ≤ maxT by unfold maxT; omega) (show s.l.length < maxI by rw [SS.out.2.2.2]; decide)] at this
          exact this.mono fun _ _ ⟨h1, G', h2, _⟩ => ⟨h1, G', h2⟩
        have PB : Hid (∀ (W : World) (G : Nat → Prop), Wl w W p G (putS s (A + 1 : Nat) 0) → Calls Try.prog 12 #[.pointer (some ⟨p, 0, none⟩), .int .i64 ((A : Int) + 1), .int .i64 0] W fun e w' => e = .returned (.tuple #[.int .i64 (putV (putS s (A + 1 : Nat) 0) (A + 1 : Nat)), .int .i64 2]) ∧ Below w.heap.size w w') := fun W G hW => by
          have e0 := putE_ok (s := s) (a := A + 1) (by have := SS.out.2.1; omega) (show A + 1 ≤ maxT by unfold maxT; omega) (show s.l.length < maxI by rw [SS.out.2.2.2]; decide)
          have e1 := putS_ok e0 0
          have := putL w W p G (putS s (A + 1 : Nat) 0) ((A + 1 : Nat) : Int) 0 (by decide) (by rw [e1]; show s.many + 1 < _; rw [SS.out.2.2.1]; decide) hW
          rw [putE_long (s := putS s (A + 1 : Nat) 0) (a := A + 1) (by rw [e1]; show s.now < A + 1; have := SS.out.2.1; omega) (show A + 1 ≤ maxT by unfold maxT; omega) (by rw [e1]; show maxI ≤ (ins _ _).length; rw [ins_length, SS.out.2.2.2]; decide)] at this
          exact this.mono fun _ _ ⟨h1, G', h2, _⟩ => ⟨h1, h2.below⟩
        go_wp2_with fail
        refine Calls.mono (PA.out _ _ SS.out.1) ?_
        rintro e w7 ⟨rfl, G7, h7⟩
        have S7 : Hid (Wl w w7 p G7 (putS s (A + 1 : Nat) 0) ∧ s.now ≤ A ∧ s.many = 4096 ∧ s.l.length = 4095) := ⟨h7, SS.out.2⟩
        clear h7 PA SS
        go_wp2_with fail
        refine Calls.mono (PB.out _ _ S7.out.1) ?_
        rintro e w8 ⟨rfl, hb8⟩
        have B8 : Hid (Below w.heap.size w w8) := hb8
        clear hb8 PB S7
        go_wp2
        go_ret
        exact ⟨rfl, B8.out⟩
      | false =>
        have C := advL w w4 p G4 (pk (ff A) N) (A : Int) (by rw [MK.out]; decide) I4.out
        have fc := full_adv HN.out a1 a2
        rw [fc.1] at C
        obtain ⟨s, hs⟩ : ∃ s, advS (pk (ff A) N) (A : Int) = s := ⟨_, rfl⟩
        obtain ⟨ids, hids⟩ : ∃ ids, advV (pk (ff A) N) (A : Int) = ids := ⟨_, rfl⟩
        rw [hs, hids] at C fc
        have CC : Hid _ := C
        have FI : Hid (ids.length = 1) := fc.2.1
        have FC : Hid (s.now ≤ A ∧ s.many = 4096 ∧ s.l.length = 4095) := fc.2.2
        clear C fc hs hids
        go_wp2_with (go_at_call 23; refine Calls.mono (LE.out _ _ I4.out) ?_; rintro e w5 ⟨rfl, rfl⟩)
        refine Calls.mono CC.out ?_
        rintro e w6 ⟨G6, va, vn, vc, rfl, h6, -, -, o6, -⟩
        obtain ⟨-, v0⟩ := owns_int o6
        obtain rfl : 1 = vn := FI.out.symm.trans v0
        have SS : Hid (Wl w w6 p G6 s ∧ s.now ≤ A ∧ s.many = 4096 ∧ s.l.length = 4095) := ⟨h6, FC.out⟩
        clear h6 CC FC LE I4 zA o6 v0 FI
        have PA : Hid (∀ (W : World) (G : Nat → Prop), Wl w W p G s → Calls Try.prog 12 #[.pointer (some ⟨p, 0, none⟩), .int .i64 ((A : Int) + 1), .int .i64 0] W fun e w' => e = .returned (.tuple #[.int .i64 (putV s (A + 1 : Nat)), .int .i64 0]) ∧ ∃ G', Wl w w' p G' (putS s (A + 1 : Nat) 0)) := fun W G hW => by
          have := putL w W p G s ((A + 1 : Nat) : Int) 0 (by decide) (by rw [SS.out.2.2.1]; decide) hW
          rw [putE_ok (show s.now < A + 1 by have := SS.out.2.1; omega) (show A + 1 ≤ maxT by unfold maxT; omega) (show s.l.length < maxI by rw [SS.out.2.2.2]; decide)] at this
          exact this.mono fun _ _ ⟨h1, G', h2, _⟩ => ⟨h1, G', h2⟩
        have PB : Hid (∀ (W : World) (G : Nat → Prop), Wl w W p G (putS s (A + 1 : Nat) 0) → Calls Try.prog 12 #[.pointer (some ⟨p, 0, none⟩), .int .i64 ((A : Int) + 1), .int .i64 0] W fun e w' => e = .returned (.tuple #[.int .i64 (putV (putS s (A + 1 : Nat) 0) (A + 1 : Nat)), .int .i64 2]) ∧ Below w.heap.size w w') := fun W G hW => by
          have e0 := putE_ok (s := s) (a := A + 1) (by have := SS.out.2.1; omega) (show A + 1 ≤ maxT by unfold maxT; omega) (show s.l.length < maxI by rw [SS.out.2.2.2]; decide)
          have e1 := putS_ok e0 0
          have := putL w W p G (putS s (A + 1 : Nat) 0) ((A + 1 : Nat) : Int) 0 (by decide) (by rw [e1]; show s.many + 1 < _; rw [SS.out.2.2.1]; decide) hW
          rw [putE_long (s := putS s (A + 1 : Nat) 0) (a := A + 1) (by rw [e1]; show s.now < A + 1; have := SS.out.2.1; omega) (show A + 1 ≤ maxT by unfold maxT; omega) (by rw [e1]; show maxI ≤ (ins _ _).length; rw [ins_length, SS.out.2.2.2]; decide)] at this
          exact this.mono fun _ _ ⟨h1, G', h2, _⟩ => ⟨h1, h2.below⟩
        go_wp2_with fail
        refine Calls.mono (PA.out _ _ SS.out.1) ?_
        rintro e w7 ⟨rfl, G7, h7⟩
        have S7 : Hid (Wl w w7 p G7 (putS s (A + 1 : Nat) 0) ∧ s.now ≤ A ∧ s.many = 4096 ∧ s.l.length = 4095) := ⟨h7, SS.out.2⟩
        clear h7 PA SS
        go_wp2_with fail
        refine Calls.mono (PB.out _ _ S7.out.1) ?_
        rintro e w8 ⟨rfl, hb8⟩
        have B8 : Hid (Below w.heap.size w w8) := hb8
        clear hb8 PB S7
        go_wp2
        go_ret
        exact ⟨rfl, B8.out⟩
end Go.Proofs.Ythnkkkiobbnpmaa
