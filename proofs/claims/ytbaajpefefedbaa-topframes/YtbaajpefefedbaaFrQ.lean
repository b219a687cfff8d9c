/- The program's reader: what its first four bytes tell; whether it breaks. -/
import Derived.Test.YtbaajpefefedbaaFrP
import Derived.BigRegion
namespace Go.Proofs.Ytbaajpefefedbaa
open Go.RowKit Go.Proofs.Fd Go.Proofs.Fr
set_option maxRecDepth 20000

theorem wr32 (n : Int) (h₀ : 0 ≤ n) (h₁ : n < 2 ^ 32) : IntKind.u32.wrap n = n := by rw [IntKind.wrap_u32]; omega
theorem or_high (a b c d : Nat) (hb : b < 256) (hc : c < 256) (hd : d < 256) : a * 16777216 ||| b * 65536 ||| c * 256 ||| d = a * 16777216 + b * 65536 + c * 256 + d := by
  have e1 : a * 16777216 ||| b * 65536 = (a * 256 + b) * 65536 := by
    have := Nat.shiftLeft_add_eq_or_of_lt (show b * 65536 < 2 ^ 24 by omega) a
    rw [Nat.shiftLeft_eq] at this
    rw [show a * 16777216 = a * 2 ^ 24 from rfl, ← this]; omega
  have e2 : (a * 256 + b) * 65536 ||| c * 256 = (a * 65536 + b * 256 + c) * 256 := by
    have := Nat.shiftLeft_add_eq_or_of_lt (show c * 256 < 2 ^ 16 by omega) (a * 256 + b)
    rw [Nat.shiftLeft_eq] at this
    rw [show (a * 256 + b) * 65536 = (a * 256 + b) * 2 ^ 16 from rfl, ← this]; omega
  have e3 : (a * 65536 + b * 256 + c) * 256 ||| d = (a * 65536 + b * 256 + c) * 256 + d := by
    have := Nat.shiftLeft_add_eq_or_of_lt (show d < 2 ^ 8 by omega) (a * 65536 + b * 256 + c)
    rw [Nat.shiftLeft_eq] at this
    rw [show (a * 65536 + b * 256 + c) * 256 = (a * 65536 + b * 256 + c) * 2 ^ 8 from rfl, ← this]
  rw [e1, e2, e3]; omega
theorem or_word (c0 c1 c2 c3 : UInt8) : bits .or .u32 (bits .or .u32 (bits .or .u32 ((c0.toNat : Int) % 4294967296 * 16777216 % 4294967296) ((c1.toNat : Int) % 4294967296 * 65536 % 4294967296)) ((c2.toNat : Int) % 4294967296 * 256 % 4294967296)) ((c3.toNat : Int) % 4294967296) = ((c0.toNat * 16777216 + c1.toNat * 65536 + c2.toNat * 256 + c3.toNat : Nat) : Int) := by
  have q0 := c0.toNat_lt
  have q1 := c1.toNat_lt
  have q2 := c2.toNat_lt
  have q3 := c3.toNat_lt
  rw [show (c3.toNat : Int) % 4294967296 = (c3.toNat : Int) by omega, show (c2.toNat : Int) % 4294967296 * 256 % 4294967296 = ((c2.toNat * 256 : Nat) : Int) by omega, show (c1.toNat : Int) % 4294967296 * 65536 % 4294967296 = ((c1.toNat * 65536 : Nat) : Int) by omega, show (c0.toNat : Int) % 4294967296 * 16777216 % 4294967296 = ((c0.toNat * 16777216 : Nat) : Int) by omega]
  have e1 := (bits_nat .u32 32 (by decide) wr32 (c0.toNat * 16777216) (c1.toNat * 65536) (by omega) (by omega)).2
  have l1 : c0.toNat * 16777216 ||| c1.toNat * 65536 < 2 ^ 32 := Nat.or_lt_two_pow (by omega) (by omega)
  have e2 := (bits_nat .u32 32 (by decide) wr32 (c0.toNat * 16777216 ||| c1.toNat * 65536) (c2.toNat * 256) l1 (by omega)).2
  have l2 : c0.toNat * 16777216 ||| c1.toNat * 65536 ||| c2.toNat * 256 < 2 ^ 32 := Nat.or_lt_two_pow l1 (by omega)
  have e3 := (bits_nat .u32 32 (by decide) wr32 (c0.toNat * 16777216 ||| c1.toNat * 65536 ||| c2.toNat * 256) c3.toNat l2 (by omega)).2
  rw [e1, e2, e3, or_high _ _ _ _ (by omega) (by omega) (by omega)]
theorem num4_of (h : List UInt8) (q : 4 ≤ h.length) : num4 h = h[0].toNat * 16777216 + h[1].toNat * 65536 + h[2].toNat * 256 + h[3].toNat := by
  unfold num4
  simp only [List.getD_eq_getElem?_getD]
  rw [List.getElem?_eq_getElem (by omega), List.getElem?_eq_getElem (by omega), List.getElem?_eq_getElem (by omega), List.getElem?_eq_getElem (by omega)]
  rfl
theorem num4_lt (h : List UInt8) : num4 h < 4294967296 := by
  unfold num4
  have h0 := (h.getD 0 0).toNat_lt
  have h1 := (h.getD 1 0).toNat_lt
  have h2 := (h.getD 2 0).toNat_lt
  have h3 := (h.getD 3 0).toNat_lt
  omega

def longN (h : List UInt8) : Nat := if 4 ≤ h.length then num4 h else 0
def longV (h : List UInt8) : Value := .tuple #[.int .u32 (longN h : Int), .bool (decide (4 ≤ h.length))]
set_option maxHeartbeats 1000000 in
theorem long_any (p g : Nat) (v : Value) (s : Int) (r : Rd) (w : World) (R : Hid (RdV w p g v s r)) :
    Calls Try.prog 37 #[.pointer (some ⟨p, 0, none⟩)] w fun e w' => e = .returned (longV r.h) ∧ Below w.heap.size w w' := by
  obtain ⟨h1, h2, h3, h4, h5, h6⟩ := R.out
  by_cases q : 4 ≤ r.h.length
  · rcases h5 with ⟨rfl, e⟩ | ⟨o, cap, cur, rfl, hg, hc, hm, hs, ht⟩
    · rw [e] at q; simp at q
    · have c0 := buf_cell hg ht 0 (by omega) (by omega)
      have c1 := buf_cell hg ht 1 (by omega) (by omega)
      have c2 := buf_cell hg ht 2 (by omega) (by omega)
      have c3 := buf_cell hg ht 3 (by omega) (by omega)
      rw [Nat.add_zero] at c0
      have EV : Hid (longV r.h = .tuple #[.int .u32 ((r.h[0].toNat * 16777216 + r.h[1].toNat * 65536 + r.h[2].toNat * 256 + r.h[3].toNat : Nat) : Int), .bool true]) := by
        show _ = _
        unfold longV longN
        rw [if_pos q, num4_of _ q, decide_eq_true q]
      obtain ⟨x0, hx0⟩ : ∃ c, r.h[0] = c := ⟨_, rfl⟩
      obtain ⟨x1, hx1⟩ : ∃ c, r.h[1] = c := ⟨_, rfl⟩
      obtain ⟨x2, hx2⟩ : ∃ c, r.h[2] = c := ⟨_, rfl⟩
      obtain ⟨x3, hx3⟩ : ∃ c, r.h[3] = c := ⟨_, rfl⟩
      rw [hx0, hx1, hx2, hx3] at EV
      rw [hx0] at c0; rw [hx1] at c1; rw [hx2] at c2; rw [hx3] at c3
      rw [EV.out]
      obtain ⟨n, hn⟩ : ∃ n, r.h.length = n := ⟨_, rfl⟩
      rw [hn] at h1
      have z0 : (0 : Int) < (n : Int) := by omega
      have z1 : (1 : Int) < (n : Int) := by omega
      have z2 : (2 : Int) < (n : Int) := by omega
      have z3 : (3 : Int) < (n : Int) := by omega
      have z4 : ¬ (n : Int) < 4 := by omega
      have y0 : 0 < n := by omega
      have y1 : 1 < n := by omega
      have y2 : 2 < n := by omega
      have y3 : 3 < n := by omega
      have OW : Hid (_ = _) := or_word x0 x1 x2 x3
      clear R hg ht h2 h3 h4 h6 hc hm hs q hn hx0 hx1 hx2 hx3 EV
      go_enter Try.func37, Try.ntmps37
      go_wp2
      go_quiet (fail)
      go_wp2
      go_ret2
      exact ⟨by rw [← OW.out]; rfl, below_drewN (Below.refl _ _) _⟩
  · have EV : Hid (longV r.h = .tuple #[.int .u32 0, .bool false]) := by
      show _ = _
      unfold longV longN
      rw [if_neg q, decide_eq_false q]; rfl
    have HV : ∃ a cap, v = .slice a r.h.length cap := by
      rcases h5 with ⟨rfl, e⟩ | ⟨o, cap, cur, rfl, -⟩
      · exact ⟨none, 0, by rw [e]; rfl⟩
      · exact ⟨_, _, rfl⟩
    obtain ⟨a, cap, rfl⟩ := HV
    rw [EV.out]
    have z4 : (r.h.length : Int) < 4 := by omega
    clear R h2 h3 h4 h5 h6 EV q
    go_enter Try.func37, Try.ntmps37
    go_wp2
    go_ret2
    exact ⟨rfl, Below.refl _ _⟩

/-- A reader that is broken anew. -/
theorem RdV.broken {w : World} {p g : Nat} {v : Value} {s : Int} {r : Rd} (h : RdV w p g v s r) : RdV (((w.setCell ⟨p, 0, none⟩ (.slice none 0 0)).setCell ⟨p, 1, none⟩ (.int .i64 0)).setCell ⟨p, 2, none⟩ (.bool true)) p p (.slice none 0 0) 0 ⟨[], true⟩ := by
  obtain ⟨h1, h2, h3, h4, h5, h6⟩ := h
  exact ⟨by simp [go_sem, h1], by simp [go_sem, h2], by simp [go_sem, h3], ⟨fun o => by simp [go_sem, h4.1], ((h4.2.set _ _).set _ _).set _ _⟩, .inl ⟨rfl, rfl⟩, .inl ⟨rfl, rfl⟩⟩
set_option maxHeartbeats 1000000 in
theorem look_any (p g : Nat) (r : Rd) (w : World) (R : Hid (RdAt w p g r)) :
    Calls Try.prog 36 #[.pointer (some ⟨p, 0, none⟩)] w fun e w' => e = .returned (.tuple #[]) ∧ (∃ g', RdAt w' p g' (Fr.look r) ∧ (g' = g ∨ g' = p)) ∧ But p g w w' := by
  obtain ⟨v, s, V⟩ := R.out
  have L : Hid (∀ w', RdV w' p g v s r → Calls Try.prog 37 #[.pointer (some ⟨p, 0, none⟩)] w' fun e w'' => e = .returned (longV r.h) ∧ Below w'.heap.size w' w'') := fun w' h => long_any p g v s r w' h
  have HV : Hid (RdV w p g v s r) := V
  clear R V
  by_cases q : bad r.h
  · have e1 : longV r.h = .tuple #[.int .u32 (num4 r.h : Int), .bool true] := by
      unfold longV longN; rw [if_pos q.1, decide_eq_true q.1]
    have e2 : (4096 : Int) < (num4 r.h : Int) := by have := q.2; omega
    rw [look_bad q]
    rw [e1] at L
    clear e1 q
    go_enter Try.func36, Try.ntmps36
    go_wp2_with fail
    refine Calls.mono (L.out _ HV.out) ?_
    rintro e w1 ⟨rfl, hb⟩
    clear L
    have V1 : Hid (RdV w1 p g v s r) := HV.out.later hb
    have B1 : Hid (But p g w w1) := But.of hb
    have c0 := V1.out.1
    have c1 := V1.out.2.1
    have c2 := V1.out.2.2.1
    have c3 := V1.out.2.2.2.1.1
    clear hb HV
    go_wp2
    exact bodyPost_end (results_none Try.results36 _ _ _) rfl ⟨rfl, ⟨p, ⟨_, _, V1.out.broken⟩, .inr rfl⟩, ((B1.out.setCell _ _).setCell _ _).setCell _ _⟩
  · rw [look_of q]
    by_cases q4 : 4 ≤ r.h.length
    · have e1 : longV r.h = .tuple #[.int .u32 (num4 r.h : Int), .bool true] := by
        unfold longV longN; rw [if_pos q4, decide_eq_true q4]
      have e2 : ¬ (4096 : Int) < (num4 r.h : Int) := by
        have : ¬ 4096 < num4 r.h := fun z => q ⟨q4, z⟩
        omega
      rw [e1] at L
      clear e1 q
      go_enter Try.func36, Try.ntmps36
      go_wp2_with fail
      refine Calls.mono (L.out _ HV.out) ?_
      rintro e w1 ⟨rfl, hb⟩
      clear L
      have V1 : Hid (RdV w1 p g v s r) := HV.out.later hb
      have B1 : Hid (But p g w w1) := But.of hb
      clear hb HV
      go_wp2
      exact bodyPost_end (results_none Try.results36 _ _ _) rfl ⟨rfl, ⟨g, ⟨_, _, V1.out⟩, .inl rfl⟩, B1.out⟩
    · have e1 : longV r.h = .tuple #[.int .u32 0, .bool false] := by
        unfold longV longN; rw [if_neg q4, decide_eq_false q4]; rfl
      rw [e1] at L
      clear e1 q
      go_enter Try.func36, Try.ntmps36
      go_wp2_with fail
      refine Calls.mono (L.out _ HV.out) ?_
      rintro e w1 ⟨rfl, hb⟩
      clear L
      have V1 : Hid (RdV w1 p g v s r) := HV.out.later hb
      have B1 : Hid (But p g w w1) := But.of hb
      clear hb HV
      go_wp2
      exact bodyPost_end (results_none Try.results36 _ _ _) rfl ⟨rfl, ⟨g, ⟨_, _, V1.out⟩, .inl rfl⟩, B1.out⟩
end Go.Proofs.Ytbaajpefefedbaa
