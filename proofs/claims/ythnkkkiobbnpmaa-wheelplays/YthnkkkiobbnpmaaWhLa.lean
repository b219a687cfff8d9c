/- WheelNext, WheelFull. -/
import Derived.Test.YthnkkkiobbnpmaaWhJ
import Derived.Test.YthnkkkiobbnpmaaWhG
import Derived.Deep.CutBlock
namespace Go.Proofs.Ythnkkkiobbnpmaa
open Go.RowKit Go.Proofs.Fd Go.Proofs.Wh
set_option maxRecDepth 20000

def f30 (L : List Int) (i : Nat) : Nat := ud 1073741824 (L.getD i 0)
theorem f30_ok (L : List Int) : ∀ i, 1 ≤ f30 L i ∧ f30 L i ≤ maxT := fun i => by
  have := ud_le 1073741824 (by decide) (L.getD i 0)
  unfold f30 maxT
  omega
theorem ud_form (m : Nat) (h0 : 0 < m) (h1 : m ≤ 1099511627776) (x : Int) : wrap64 (1 + wrap64 ((IntKind.u64.wrap x).tmod (m : Int))) = (ud m x : Int) := by
  have e1 : IntKind.u64.wrap x = ((x % 18446744073709551616).toNat : Int) := by rw [IntKind.wrap_u64]; omega
  rw [e1, ← Int.ofNat_tmod]
  unfold ud
  have := Nat.mod_lt (x % 18446744073709551616).toNat h0
  unfold wrap64
  omega
set_option maxHeartbeats 4000000 in
theorem WheelNext_walk (a : Option Addr) (L : List Int) (len cap : Nat) (hn : L.length = len) (hx : len ≤ 140737488351232) (w : World) (h : Hid (IntAt w a L)) :
    Calls Try.prog 7 #[.slice a len cap] w fun e w' => e = .returned (.bool true) ∧ Below w.heap.size w w' := by
  have HN : Hid (L.length = len) := hn
  clear hn
  go_enter Try.func7, Try.ntmps7
  go_wp2_with fail
  refine Calls.mono (newL w w (Below.refl _ _)) ?_
  rintro e w1 ⟨p, F, rfl, h1, h2, h3⟩
  have I0' : Hid (Wl w w1 p F St.init) := h1
  clear h1 h2 h3
  have WK : Hid _ := works_any w1
  go_wp2_with fail
  refine Calls.mono WK.out ?_
  rintro e w2 ⟨rfl, hb2⟩
  have I0 : Hid (Wl w w2 p F (pk (f30 L) 0)) := I0'.out.later hb2
  clear I0' hb2 WK
  go_upto_block 0 with fail
  go_cut [4, 5, 6] (fun s4 s5 s6 wx => ∃ (k : Nat) (G : Nat → Prop), k ≤ 60 ∧ Hid (Wl w wx p G (pk (f30 L) k)))
  case first =>
    go_wp2_with fail
    go_loopw [4] (fun i wr => ∃ (k : Nat) (G : Nat → Prop), k ≤ len ∧ k ≤ 60 ∧ i = .int .i64 (k : Int) ∧ Hid (Wl w wr p G (pk (f30 L) k))) (fun i wr => 60 - (intOf i).toNat)
    case atStart => exact ⟨0, F, by omega, by omega, rfl, I0.out⟩
    case round =>
      obtain ⟨k, G, hk, hk60, rfl, I⟩ := hrel
      clear I0
      by_cases hlt : k < len
      · by_cases h60 : k < 60
        · have g1 : (k : Int) < (len : Int) := by omega
          have g2 : (k : Int) < 60 := by omega
          obtain ⟨b, o, rfl, c0⟩ := (h.out.later I.out.below) k (by have := HN.out; omega)
          obtain ⟨x, hx⟩ : ∃ x, L[k]'(by have := HN.out; omega) = x := ⟨_, rfl⟩
          rw [hx] at c0
          have z : wrap64 (1 + wrap64 ((IntKind.u64.wrap x).tmod 1073741824)) = (f30 L k : Int) := by
            have := ud_form 1073741824 (by decide) (by decide) x
            unfold f30
            rw [List.getD_eq_getElem?_getD, List.getElem?_eq_getElem (by have := HN.out; omega), hx]
            exact this
          have PK := pk_is (f30_ok L) k (by unfold maxI; omega)
          have P := putL w wr p G (pk (f30 L) k) (f30 L k : Int) (k : Int) ⟨by omega, by omega⟩ (by rw [PK.many]; omega) I.out
          rw [pk_putE (f30_ok L) (show k < maxI by unfold maxI; omega)] at P
          have PP : Hid _ := P
          clear P PK hx
          go_wp2_with fail
          refine Calls.mono PP.out ?_
          rintro e w3 ⟨rfl, G', h1, h2, h3⟩
          have J : Hid (Wl w w3 p G' (pk (f30 L) (k + 1))) := h1
          clear h1 h2 h3 PP z I
          go_wp2
          go_roundw
          case rel => exact ⟨k + 1, G', by omega, by omega, by go_num, J.out⟩
          case measure => simp [intOf]; omega
        · have g1 : (k : Int) < (len : Int) := by omega
          have g2 : ¬ (k : Int) < 60 := by omega
          go_wp2
          go_meet
          case rel => exact ⟨k, G, hk60, I.out⟩
      · have g1 : ¬ (k : Int) < (len : Int) := by omega
        go_wp2
        go_meet
        case rel => exact ⟨k, G, hk60, I.out⟩
  case rest =>
    obtain ⟨k, G, hk60, I⟩ := hcut
    clear I0
    have PK := pk_is (f30_ok L) k (by unfold maxI; omega)
    have MK : Hid ((pk (f30 L) k).many ≤ 60 ∧ (pk (f30 L) k).l.length ≤ 60) := ⟨by rw [PK.many]; exact hk60, by rw [PK.len]; exact hk60⟩
    clear PK
    have LN : Hid _ := lenW_any p G _ wc I.out.at_
    go_wp2_with (go_at_call 23; refine Calls.mono LN.out ?_; rintro e w4 ⟨rfl, rfl⟩)
    have I0 : Hid (Wl w w4 p G (pk (f30 L) k) ∧ (pk (f30 L) k).many ≤ 60 ∧ (pk (f30 L) k).l.length + 0 ≤ 60) := ⟨I.out, MK.out.1, MK.out.2⟩
    clear I MK LN
    obtain ⟨s0, hs0⟩ : ∃ s0, pk (f30 L) k = s0 := ⟨_, rfl⟩
    rw [hs0] at I0 ⊢
    clear hs0
    go_loopw [7, 49] (fun lf i wr => ∃ (r : Nat) (s : St) (G : Nat → Prop), r ≤ 60 ∧ i = .int .i64 (r : Int) ∧ lf = .int .i64 (s.l.length : Int) ∧ Hid (Wl w wr p G s ∧ s.many ≤ 60 ∧ s.l.length + r ≤ 60)) (fun lf i wr => 60 - (intOf i).toNat)
    case atStart => exact ⟨0, s0, G, by omega, rfl, rfl, I0.out⟩
    case round =>
      obtain ⟨r, s, G, hr, rfl, rfl, I⟩ := hrel
      clear I0
      by_cases hr60 : r < 60
      · have g1 : (r : Int) < 60 := by omega
        have NX : Hid _ := next_any p G s wr I.out.1.at_
        cases e : s.l with
        | nil =>
          have e1 := next_nil e
          unfold NxtP at NX
          rw [e1.1, e1.2] at NX
          have LE : Hid (∀ W, Wl w W p G s → Calls Try.prog 23 #[.pointer (some ⟨p, 0, none⟩)] W fun e w' => e = .returned (.int .i64 0) ∧ w' = W) := fun W hW => by
            have := lenW_any p G s W hW.at_
            rw [e] at this
            exact this
          rw [List.length_nil]
          clear e e1
          go_wp2_with fail
          refine Calls.mono NX.out ?_
          rintro e w5 ⟨rfl, hb5⟩
          have J : Hid (Wl w w5 p G s) := I.out.1.later hb5
          clear hb5 NX I
          go_wp2_with (go_at_call 23; refine Calls.mono (LE.out _ J.out) ?_; rintro e w6 ⟨rfl, rfl⟩)
          go_ret
          exact ⟨rfl, J.out.below⟩
        | cons t l =>
          have e1 := next_of e
          unfold NxtP at NX
          rw [e1.1, e1.2] at NX
          obtain ⟨q1, q2, q3, q4, q5, q6, q7, q8⟩ := next_two I.out.1.at_.ok e
          have hab := I.out.1.at_.ok.above t (by rw [e]; exact List.mem_cons_self ..)
          have z : wrap64 ((t.a : Int) - 1) = (t.a : Int) - 1 := by have := hab.2; unfold maxT at this; unfold wrap64; omega
          have hlen : Hid ((t :: l).length = s.l.length) := by show _ = _; rw [e]
          obtain ⟨n0, hn0⟩ : ∃ n0, (t :: l).length = n0 := ⟨_, rfl⟩
          rw [hn0] at hlen ⊢
          clear e e1 hab hn0
          go_wp2_with fail
          refine Calls.mono NX.out ?_
          rintro e w5 ⟨rfl, hb5⟩
          have J5 : Hid (Wl w w5 p G s) := I.out.1.later hb5
          have K5 : Hid (s.many ≤ 60 ∧ s.l.length + r ≤ 60) := I.out.2
          clear hb5 NX I
          have A1 := advL w w5 p G s ((t.a : Int) - 1) (by have := K5.out.1; omega) J5.out
          rw [q1, q2] at A1
          have AA1 : Hid _ := A1
          clear A1 q1 q2
          go_wp2_with fail
          refine Calls.mono AA1.out ?_
          rintro e w6 ⟨G6, va, vn, vc, rfl, h1, -, -, h4, -⟩
          have J6 : Hid (Wl w w6 p G6 (advS s ((t.a : Int) - 1))) := h1
          obtain ⟨-, v0⟩ := owns_int h4
          obtain rfl : 0 = vn := v0
          clear h1 h4 AA1 J5
          have A2 := advL w w6 p G6 _ (t.a : Int) (by rw [q3]; have := K5.out.1; omega) J6.out
          rw [q5] at A2
          have AA2 : Hid _ := A2
          clear A2 q5 q3 q4
          obtain ⟨ids, hids⟩ : ∃ ids, advV (advS s ((t.a : Int) - 1)) (t.a : Int) = ids := ⟨_, rfl⟩
          obtain ⟨s2, hs2⟩ : ∃ s2, advS (advS s ((t.a : Int) - 1)) (t.a : Int) = s2 := ⟨_, rfl⟩
          rw [hids, hs2] at AA2 q6
          rw [hids] at q7
          rw [hs2] at q8
          clear hids hs2
          go_wp2_with fail
          refine Calls.mono AA2.out ?_
          rintro e w7 ⟨G7, ua, un, uc, rfl, h1, -, -, h4, -⟩
          obtain ⟨-, v1⟩ := owns_int h4
          have J7 : Hid (Wl w w7 p G7 s2 ∧ s2.many ≤ 60 ∧ s2.l.length + (r + 1) ≤ 60) := ⟨h1, by rw [q8]; exact K5.out.1, by have := K5.out.2; omega⟩
          have x1 : ((un : Int) == 0) = false := by rw [beq_eq_false_iff_ne]; omega
          have x2 : wrap64 ((n0 : Int) - (un : Int)) = (s2.l.length : Int) := by have := hlen.out; have := K5.out.2; unfold wrap64; omega
          clear h1 h4 AA2 J6 v1 q6 q7 q8 z
          go_wp2
          go_roundw
          case rel => exact ⟨r + 1, s2, G7, by omega, by go_num, by rw [x2], J7.out⟩
          case measure => simp [intOf]; omega
      · have hr' : r = 60 := by omega
        have g1 : ¬ (r : Int) < 60 := by omega
        have e0 : s.l.length = 0 := by have := I.out.2.2; omega
        have LE := lenW_any p G s wr I.out.1.at_
        rw [e0] at LE ⊢
        have LE' : Hid _ := LE
        clear LE e0 hr' hr60
        go_wp2_with (go_at_call 23; refine Calls.mono LE'.out ?_; rintro e w6 ⟨rfl, rfl⟩)
        go_ret
        exact ⟨rfl, I.out.1.below⟩
end Go.Proofs.Ythnkkkiobbnpmaa
