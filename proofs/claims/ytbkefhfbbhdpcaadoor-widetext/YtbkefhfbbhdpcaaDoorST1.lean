/- The program's stream: words turned, a word of four bytes, quarter rounds. -/
import Derived.Test.YtbkefhfbbhdpcaaDoorSR0
import Derived.Test.YtbkefhfbbhdpcaaDoorSM2
import Derived.BigRegion
namespace Go.Proofs.YtbkefhfbbhdpcaaDoor
open Go.RowKit Go.Proofs.Fd Go.Proofs.Hs Go.Proofs.Cc

set_option maxHeartbeats 400000 in
theorem rotl_any (x : UInt32) (k : Nat) (h1 : 1 ≤ k) (h2 : k ≤ 31) (w : World) :
    Calls Tryd.prog 85 #[.int .u32 (tv x), .int .i64 (k : Int)] w fun e w' => e = .returned (.int .u32 (tv (lft x k))) ∧ w' = w := by
  have HO : Hid (_ = _) := trn_or x (32 - k) (by omega) (by omega)
  have HA : bits .and .u64 (k : Int) 31 = (k : Int) := by
    have := bits_mask .u64 64 (by decide) wr64 5 (by decide) (k : Int) (by omega) (by omega)
    rw [show (2 : Int) ^ 5 - 1 = 31 by decide] at this
    rw [this]
    omega
  have HW : IntKind.u64.wrap (k : Int) = (k : Int) := by rw [IntKind.wrap_u64]; omega
  obtain ⟨r, hr⟩ : ∃ r, 32 - k = r := ⟨_, rfl⟩
  have hk : 32 - r = k := by omega
  have e : lft x k = trn x r := by unfold lft; rw [hr]
  rw [e]
  rw [hr, hk] at HO
  have h4 : (k : Int) ≤ 32 := by omega
  have h5 : IntKind.u64.wrap (32 - (k : Int)) = (r : Int) := by rw [IntKind.wrap_u64]; omega
  have h6 : (r : Int) ≤ 32 := by omega
  clear hr h1 h2 hk e
  go_enter Tryd.func85, Tryd.ntmps85
  go_wp2
  go_ret
  exact ⟨by rw [← HO.out]; rfl, rfl⟩
attribute [local go_sem] and32 or32 xor32 add32 add32'

theorem or_word (c0 c1 c2 c3 : UInt8) : bits .or .u32 (bits .or .u32 (bits .or .u32 ((c0.toNat : Int) % 4294967296) ((c1.toNat : Int) % 4294967296 * 256 % 4294967296)) ((c2.toNat : Int) % 4294967296 * 65536 % 4294967296)) ((c3.toNat : Int) % 4294967296 * 16777216 % 4294967296) = tv (UInt32.ofNat (c0.toNat + c1.toNat * 256 + c2.toNat * 65536 + c3.toNat * 16777216)) := by
  have q0 := c0.toNat_lt
  have q1 := c1.toNat_lt
  have q2 := c2.toNat_lt
  have q3 := c3.toNat_lt
  rw [show (c0.toNat : Int) % 4294967296 = (c0.toNat : Int) by omega, show (c1.toNat : Int) % 4294967296 * 256 % 4294967296 = ((c1.toNat * 256 : Nat) : Int) by omega, show (c2.toNat : Int) % 4294967296 * 65536 % 4294967296 = ((c2.toNat * 65536 : Nat) : Int) by omega, show (c3.toNat : Int) % 4294967296 * 16777216 % 4294967296 = ((c3.toNat * 16777216 : Nat) : Int) by omega]
  have e1 := (bits_nat .u32 32 (by decide) wr32 c0.toNat (c1.toNat * 256) (by omega) (by omega)).2
  have l1 : c0.toNat ||| c1.toNat * 256 < 2 ^ 32 := Nat.or_lt_two_pow (by omega) (by omega)
  have e2 := (bits_nat .u32 32 (by decide) wr32 (c0.toNat ||| c1.toNat * 256) (c2.toNat * 65536) l1 (by omega)).2
  have l2 : c0.toNat ||| c1.toNat * 256 ||| c2.toNat * 65536 < 2 ^ 32 := Nat.or_lt_two_pow l1 (by omega)
  have e3 := (bits_nat .u32 32 (by decide) wr32 (c0.toNat ||| c1.toNat * 256 ||| c2.toNat * 65536) (c3.toNat * 16777216) l2 (by omega)).2
  rw [e1, e2, e3, or_bytes _ _ _ _ (by omega) (by omega) (by omega), tv_ofNat, Nat.mod_eq_of_lt (by omega)]

set_option maxHeartbeats 400000 in
theorem sword_any (s : ByteArray) (h4 : 4 ≤ s.size) (w : World) :
    Calls Tryd.prog 62 #[.string s] w fun e w' => e = .returned (.int .u32 (tv (rdw s.data.toList 0))) ∧ ∃ m, w' = w.drewN m := by
  have l0 : 0 < s.size := by omega
  have l1 : 1 < s.size := by omega
  have l2 : 2 < s.size := by omega
  have l3 : 3 < s.size := by omega
  have HX : Hid (rdw s.data.toList 0 = UInt32.ofNat (s[0].toNat + s[1].toNat * 256 + s[2].toNat * 65536 + s[3].toNat * 16777216)) := by
    show _ = _
    unfold rdw
    simp only [List.getD_eq_getElem?_getD, Nat.mul_zero, Nat.zero_add]
    rw [List.getElem?_eq_getElem (by simpa using l0), List.getElem?_eq_getElem (by simpa using l1), List.getElem?_eq_getElem (by simpa using l2), List.getElem?_eq_getElem (by simpa using l3)]
    rfl
  rw [HX.out]
  obtain ⟨c0, hc0⟩ : ∃ c, s[0] = c := ⟨_, rfl⟩
  obtain ⟨c1, hc1⟩ : ∃ c, s[1] = c := ⟨_, rfl⟩
  obtain ⟨c2, hc2⟩ : ∃ c, s[2] = c := ⟨_, rfl⟩
  obtain ⟨c3, hc3⟩ : ∃ c, s[3] = c := ⟨_, rfl⟩
  rw [hc0, hc1, hc2, hc3]
  have z0 : (0 : Int) < (s.size : Int) := by omega
  have z1 : (1 : Int) < (s.size : Int) := by omega
  have z2 : (2 : Int) < (s.size : Int) := by omega
  have z3 : (3 : Int) < (s.size : Int) := by omega
  have OW : Hid (_ = _) := or_word c0 c1 c2 c3
  clear HX
  go_enter Tryd.func62, Tryd.ntmps62
  go_wp2
  go_quiet (fail)
  go_wp2
  go_ret
  exact ⟨by rw [← OW.out]; rfl, _, rfl⟩

set_option maxHeartbeats 2000000 in
theorem quarter_any (g : Nat) (L : List UInt32) (i j k l : Nat) (hL : Hid (L.length = 16)) (hr : Hid (i < 16 ∧ j < 16 ∧ k < 16 ∧ l < 16)) (hd : Hid (i ≠ j ∧ i ≠ k ∧ i ≠ l ∧ j ≠ k ∧ j ≠ l ∧ k ≠ l)) (w : World) (hw : Hid (QAt w g L)) :
    Calls Tryd.prog 82 #[.pointer (some ⟨g, 0, none⟩), .int .i64 (i : Int), .int .i64 (j : Int), .int .i64 (k : Int), .int .i64 (l : Int)] w fun e w' => e = .returned (.tuple #[]) ∧ QAt w' g (qr L i j k l) ∧ Below g w w' ∧ ∀ b l', b ≠ g → QAt w b l' → QAt w' b l' := by
  obtain ⟨ri, rj, rk, rl⟩ := hr.out
  obtain ⟨ij, ik, il, jk, jl, kl⟩ := hd.out
  have zi : (i : Int) < 16 := by omega
  have zj : (j : Int) < 16 := by omega
  have zk : (k : Int) < 16 := by omega
  have zl : (l : Int) < 16 := by omega
  obtain ⟨ci, fi⟩ := hw.out.at i (by rw [hL.out]; exact ri)
  obtain ⟨cj, fj⟩ := hw.out.at j (by rw [hL.out]; exact rj)
  obtain ⟨ck, fk⟩ := hw.out.at k (by rw [hL.out]; exact rk)
  obtain ⟨cl, fl⟩ := hw.out.at l (by rw [hL.out]; exact rl)
  have QE : Hid (_ = _) := qr_eq L i j k l (by rw [hL.out]; exact ri) (by rw [hL.out]; exact rj) (by rw [hL.out]; exact rk) (by rw [hL.out]; exact rl) ij ik il jk jl kl
  obtain ⟨a, ha⟩ : ∃ a, L.getD i 0 = a := ⟨_, rfl⟩
  obtain ⟨b, hb⟩ : ∃ a, L.getD j 0 = a := ⟨_, rfl⟩
  obtain ⟨c, hc⟩ : ∃ a, L.getD k 0 = a := ⟨_, rfl⟩
  obtain ⟨d, hd⟩ : ∃ a, L.getD l 0 = a := ⟨_, rfl⟩
  rw [ha, hb, hc, hd] at QE
  rw [ha] at ci
  rw [hb] at cj
  rw [hc] at ck
  rw [hd] at cl
  clear ha hb hc hd
  rw [QE.out]
  have FIN : Hid (∀ m A B C D, QAt (((((w.drewN m).setCell ⟨g, i, none⟩ (.int .u32 (tv A))).setCell ⟨g, j, none⟩ (.int .u32 (tv B))).setCell ⟨g, k, none⟩ (.int .u32 (tv C))).setCell ⟨g, l, none⟩ (.int .u32 (tv D))) g ((((L.set i A).set j B).set k C).set l D) ∧ Below g w (((((w.drewN m).setCell ⟨g, i, none⟩ (.int .u32 (tv A))).setCell ⟨g, j, none⟩ (.int .u32 (tv B))).setCell ⟨g, k, none⟩ (.int .u32 (tv C))).setCell ⟨g, l, none⟩ (.int .u32 (tv D))) ∧ ∀ b l', b ≠ g → QAt w b l' → QAt (((((w.drewN m).setCell ⟨g, i, none⟩ (.int .u32 (tv A))).setCell ⟨g, j, none⟩ (.int .u32 (tv B))).setCell ⟨g, k, none⟩ (.int .u32 (tv C))).setCell ⟨g, l, none⟩ (.int .u32 (tv D))) b l') := fun m A B C D =>
    ⟨((((QAt.set (w := w.drewN m) hw.out) i A).set j B).set k C).set l D, ((((below_drewN (Below.refl _ _) m).setCell (p := ⟨g, i, none⟩) (Nat.le_refl _) _).setCell (p := ⟨g, j, none⟩) (Nat.le_refl _) _).setCell (p := ⟨g, k, none⟩) (Nat.le_refl _) _).setCell (p := ⟨g, l, none⟩) (Nat.le_refl _) _,
      fun b l' hne h => (((QAt.other (w := w.drewN m) h (a := ⟨g, i, none⟩) (Ne.symm hne) _).other (a := ⟨g, j, none⟩) (Ne.symm hne) _).other (a := ⟨g, k, none⟩) (Ne.symm hne) _).other (a := ⟨g, l, none⟩) (Ne.symm hne) _⟩
  have RT : Hid (∀ (x : UInt32) (n : Nat) (_ : 1 ≤ n) (_ : n ≤ 31) (w : World), Calls Tryd.prog 85 #[.int .u32 (tv x), .int .i64 (n : Int)] w fun e w' => e = .returned (.int .u32 (tv (lft x n))) ∧ w' = w) := rotl_any
  clear QE hw
  have ji := ij.symm
  have ki := ik.symm
  have li := il.symm
  have kj := jk.symm
  have lj := jl.symm
  have lk := kl.symm
  go_enter Tryd.func82, Tryd.ntmps82
  go_wp2
  go_quiet (fail)
  go_wp2_with fail
  refine Calls.mono (RT.out _ 16 (by decide) (by decide) _) ?_
  rintro e w1 ⟨rfl, rfl⟩
  go_wp2_with fail
  refine Calls.mono (RT.out _ 12 (by decide) (by decide) _) ?_
  rintro e w1 ⟨rfl, rfl⟩
  go_wp2_with fail
  refine Calls.mono (RT.out _ 8 (by decide) (by decide) _) ?_
  rintro e w1 ⟨rfl, rfl⟩
  go_wp2_with fail
  refine Calls.mono (RT.out _ 7 (by decide) (by decide) _) ?_
  rintro e w1 ⟨rfl, rfl⟩
  go_wp2
  go_region
  exact bodyPost_end (results_none Tryd.results82 _ _ _) rfl ⟨rfl, FIN.out _ _ _ _ _⟩
end Go.Proofs.YtbkefhfbbhdpcaaDoor
