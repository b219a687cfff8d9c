/- What settle of package field does. -/
import Derived.Test.YtdebfelgaiofeaaW3
import Derived.Test.YtdebfelgaiofeaaH
import Derived.Deep.RegionHeld3
import Derived.Deep.DrawnRows
import Derived.Deep.DeepCutAuto
namespace Go.Proofs.Ytdebfelgaiofeaa
open Go.RowKit Go.Proofs.Fd
attribute [local go_sem ↓] Go.wp_at_zero Go.wp_at_succ

set_option maxHeartbeats 400000 in
theorem settle_any (a0 a1 a2 a3 h : Nat) (ha : Hid (u4 a0 a1 a2 a3)) (hh : h ≤ 38) (w : World) :
    Calls Try.prog 63 #[.agg #[.int .u64 a0, .int .u64 a1, .int .u64 a2, .int .u64 a3], .int .u64 h] w fun e w' =>
      ∃ c0 c1 c2 c3 : Nat, e = .returned (.agg #[.int .u64 c0, .int .u64 c1, .int .u64 c2, .int .u64 c3]) ∧ u4 c0 c1 c2 c3 ∧ v4 c0 c1 c2 c3 = (v4 a0 a1 a2 a3 + h * W256) % p ∧ Below w.heap.size w w' := by
  have ha' := ha.out; unfold u4 at ha'
  obtain ⟨sv1, sv2, sv3⟩ := settle_val a0 a1 a2 a3 h ha.out hh
  obtain ⟨m, em⟩ : ∃ m, a3 % 9223372036854775808 = m := ⟨_, rfl⟩
  obtain ⟨o, eo⟩ : ∃ o, h * 2 + a3 / 9223372036854775808 = o := ⟨_, rfl⟩
  obtain ⟨t, et⟩ : ∃ t, 19 * o = t := ⟨_, rfl⟩
  have e1 : bits .or .u64 ((h : Int) * 2) ((a3 : Int) / 9223372036854775808) = (o : Int) := by
    have q := bits_or_u64_nat (h * 2) (a3 / 9223372036854775808) (by omega) (by omega)
    rw [settle_or _ _ (by omega), eo] at q
    rw [← q]; congr 1
  have e2 : IntKind.u64.wrap (19 * (o : Int)) = (t : Int) := by rw [IntKind.wrap_u64]; omega
  have e3 : bits .and .u64 (a3 : Int) 9223372036854775807 = (m : Int) := by
    have q := bits_and_u64_nat a3 9223372036854775807 (by omega) (by omega)
    have e : a3 &&& 9223372036854775807 = a3 % 9223372036854775808 := Nat.and_two_pow_sub_one_eq_mod a3 63
    rw [e, em] at q
    exact q
  rw [em, eo, et] at sv1 sv2 sv3
  have um : Hid (u4 a0 a1 a2 m) := ⟨by omega, by omega, by omega, by omega⟩
  have ut : Hid (u4 t 0 0 0) := ⟨by omega, by omega, by omega, by omega⟩
  have S : Hid (∀ w, Calls Try.prog 74 #[.agg #[.int .u64 a0, .int .u64 a1, .int .u64 a2, .int .u64 m], .agg #[.int .u64 t, .int .u64 0, .int .u64 0, .int .u64 0]] w fun e w' =>
      ∃ c0 c1 c2 c3 : Nat, e = .returned (.agg #[.int .u64 c0, .int .u64 c1, .int .u64 c2, .int .u64 c3]) ∧ u4 c0 c1 c2 c3 ∧ v4 c0 c1 c2 c3 = (v4 a0 a1 a2 m + v4 t 0 0 0) % W256 ∧ Below w.heap.size w w') :=
    fun w => sum_any a0 a1 a2 m t 0 0 0 um ut w
  have SV : Hid (_ ∧ _ ∧ _) := ⟨sv1, sv2, sv3⟩
  clear sv1 sv2 sv3 em eo et ha' um ut
  go_enter Try.func63, Try.ntmps63
  go_wp2_with fail
  refine Calls.mono (S.out _) ?_
  rintro e w1 ⟨c0, c1, c2, c3, rfl, uc, vc, hb⟩
  have f0 : ∀ o, w1.frozen? ⟨w.heap.size, o, none⟩ = false := fun o => by rw [frozen_kept hb (by simp; omega)]; simp [go_sem]
  have g0 : w1.cell? ⟨w.heap.size, 0, none⟩ = some (.int .u64 a0) := by rw [cell_kept hb (by simp; omega)]; simp [go_sem]
  have g1 : w1.cell? ⟨w.heap.size, 1, none⟩ = some (.int .u64 a1) := by rw [cell_kept hb (by simp; omega)]; simp [go_sem]
  have g2 : w1.cell? ⟨w.heap.size, 2, none⟩ = some (.int .u64 a2) := by rw [cell_kept hb (by simp; omega)]; simp [go_sem]
  have g3 : w1.cell? ⟨w.heap.size, 3, none⟩ = some (.int .u64 a3) := by rw [cell_kept hb (by simp; omega)]; simp [go_sem]
  have hz : w.heap.size + 1 < w1.heap.size := by have := hb.size; simp at this; omega
  have UC : Hid (u4 c0 c1 c2 c3) := uc
  have VC : Hid (_ = _) := vc
  have HB : Hid (Below _ _ _) := hb
  clear uc vc
  have rf : ∀ o, w1.frozen? ⟨w.heap.size + 1, o, none⟩ = false := fun o => by rw [frozen_kept hb (by simp)]; simp [go_sem]
  have r0 : w1.cell? ⟨w.heap.size + 1, 0, none⟩ = some (.int .u64 0) := by rw [cell_kept hb (by simp)]; simp [go_sem]
  have r1 : w1.cell? ⟨w.heap.size + 1, 1, none⟩ = some (.int .u64 0) := by rw [cell_kept hb (by simp)]; simp [go_sem]
  have r2 : w1.cell? ⟨w.heap.size + 1, 2, none⟩ = some (.int .u64 0) := by rw [cell_kept hb (by simp)]; simp [go_sem]
  have r3 : w1.cell? ⟨w.heap.size + 1, 3, none⟩ = some (.int .u64 0) := by rw [cell_kept hb (by simp)]; simp [go_sem]
  clear hb
  go_wp2_with fail
  refine Calls.mono (below_any c0 c1 c2 c3 UC _) ?_
  rintro e w2 ⟨rfl, hb2⟩
  have f0' : ∀ o, w2.frozen? ⟨w.heap.size, o, none⟩ = false := fun o => by rw [frozen_kept hb2 (by simp; omega)]; simp [go_sem, f0]
  have g0' : w2.cell? ⟨w.heap.size, 0, none⟩ = some (.int .u64 c0) := by rw [cell_kept hb2 (by simp; omega)]; simp [go_sem, g0]
  have g1' : w2.cell? ⟨w.heap.size, 1, none⟩ = some (.int .u64 c1) := by rw [cell_kept hb2 (by simp; omega)]; simp [go_sem, g1]
  have g2' : w2.cell? ⟨w.heap.size, 2, none⟩ = some (.int .u64 c2) := by rw [cell_kept hb2 (by simp; omega)]; simp [go_sem, g2]
  have g3' : w2.cell? ⟨w.heap.size, 3, none⟩ = some (.int .u64 c3) := by rw [cell_kept hb2 (by simp; omega)]; simp [go_sem, g3]
  have rf' : ∀ o, w2.frozen? ⟨w.heap.size + 1, o, none⟩ = false := fun o => by rw [frozen_kept hb2 (by simp; omega)]; simp [go_sem, rf]
  have r0' : w2.cell? ⟨w.heap.size + 1, 0, none⟩ = some (.int .u64 0) := by rw [cell_kept hb2 (by simp; omega)]; simp [go_sem, r0]
  have r1' : w2.cell? ⟨w.heap.size + 1, 1, none⟩ = some (.int .u64 0) := by rw [cell_kept hb2 (by simp; omega)]; simp [go_sem, r1]
  have r2' : w2.cell? ⟨w.heap.size + 1, 2, none⟩ = some (.int .u64 0) := by rw [cell_kept hb2 (by simp; omega)]; simp [go_sem, r2]
  have r3' : w2.cell? ⟨w.heap.size + 1, 3, none⟩ = some (.int .u64 0) := by rw [cell_kept hb2 (by simp; omega)]; simp [go_sem, r3]
  have hz2 : w.heap.size + 1 < w2.heap.size := by have := hb2.size; simp at this; omega
  have B2 : Hid (Below w.heap.size w w2) := by
    have b1 : Below w.heap.size w w1 := (((Below.refl _ w).alloc (Nat.le_refl _) _).alloc (by simp) _).trans (HB.out.mono (by simp; omega))
    refine Below.trans ((((b1.setCell (by simp) _).setCell (by simp) _).setCell (by simp) _).setCell (by simp) _) (hb2.mono ?_)
    simp; omega
  clear hb2 g0 g1 g2 g3 f0 r0 r1 r2 r3 rf HB hz
  by_cases hlt : v4 c0 c1 c2 c3 < p
  · have hd : decide (v4 c0 c1 c2 c3 < p) = true := by simpa using hlt
    have fin : Hid (v4 c0 c1 c2 c3 = (v4 a0 a1 a2 a3 + h * W256) % p) := by
      show v4 c0 c1 c2 c3 = _
      have q1 := SV.out.1; have q3 := SV.out.2.2; have q := VC.out; rw [q1] at q; rw [← q3, ← q, Nat.mod_eq_of_lt hlt]
    clear hlt
    go_wp2
    exact bodyPost_ret (v := .agg #[.int .u64 c0, .int .u64 c1, .int .u64 c2, .int .u64 c3]) (by simp [results, Try.results63, go_sem, *]) rfl ⟨c0, c1, c2, c3, rfl, UC.out, fin.out, (((B2.out.setCell (by simp) _).setCell (by simp) _).setCell (by simp) _).setCell (by simp) _⟩
  · have hd : decide (v4 c0 c1 c2 c3 < p) = false := by simpa using hlt
    have HLT : Hid (¬ v4 c0 c1 c2 c3 < p) := hlt
    clear hlt
    go_wp2
    have n00 : ¬ (w.heap.size = w2.heap.size) := by omega
    have n00' : ¬ (w2.heap.size = w.heap.size) := by omega
    have n01 : ¬ (w.heap.size = w2.heap.size + 1) := by omega
    have n01' : ¬ (w2.heap.size + 1 = w.heap.size) := by omega
    have n02 : ¬ (w.heap.size = w2.heap.size + 1 + 1) := by omega
    have n02' : ¬ (w2.heap.size + 1 + 1 = w.heap.size) := by omega
    have n03 : ¬ (w.heap.size = w2.heap.size + 1 + 1 + 1) := by omega
    have n03' : ¬ (w2.heap.size + 1 + 1 + 1 = w.heap.size) := by omega
    have n04 : ¬ (w.heap.size = w2.heap.size + 1 + 1 + 1 + 1) := by omega
    have n04' : ¬ (w2.heap.size + 1 + 1 + 1 + 1 = w.heap.size) := by omega
    have n05 : ¬ (w.heap.size = w2.heap.size + 1 + 1 + 1 + 1 + 1) := by omega
    have n05' : ¬ (w2.heap.size + 1 + 1 + 1 + 1 + 1 = w.heap.size) := by omega
    have n10 : ¬ (w.heap.size + 1 = w2.heap.size) := by omega
    have n10' : ¬ (w2.heap.size = w.heap.size + 1) := by omega
    have n11 : ¬ (w.heap.size + 1 = w2.heap.size + 1) := by omega
    have n11' : ¬ (w2.heap.size + 1 = w.heap.size + 1) := by omega
    have n12 : ¬ (w.heap.size + 1 = w2.heap.size + 1 + 1) := by omega
    have n12' : ¬ (w2.heap.size + 1 + 1 = w.heap.size + 1) := by omega
    have n13 : ¬ (w.heap.size + 1 = w2.heap.size + 1 + 1 + 1) := by omega
    have n13' : ¬ (w2.heap.size + 1 + 1 + 1 = w.heap.size + 1) := by omega
    have n14 : ¬ (w.heap.size + 1 = w2.heap.size + 1 + 1 + 1 + 1) := by omega
    have n14' : ¬ (w2.heap.size + 1 + 1 + 1 + 1 = w.heap.size + 1) := by omega
    have n15 : ¬ (w.heap.size + 1 = w2.heap.size + 1 + 1 + 1 + 1 + 1) := by omega
    have n15' : ¬ (w2.heap.size + 1 + 1 + 1 + 1 + 1 = w.heap.size + 1) := by omega
    go_cut [6] (fun s6 wx => ∃ g d0 d1 d2 d3 : Nat, s6 = .pointer (some ⟨g, 0, none⟩) ∧ wx.cell? ⟨g, 0, none⟩ = some (.int .u64 d0) ∧ wx.cell? ⟨g, 1, none⟩ = some (.int .u64 d1) ∧ wx.cell? ⟨g, 2, none⟩ = some (.int .u64 d2) ∧ wx.cell? ⟨g, 3, none⟩ = some (.int .u64 d3)
      ∧ wx.cell? ⟨w.heap.size + 1, 0, none⟩ = some (.int .u64 0) ∧ wx.cell? ⟨w.heap.size + 1, 1, none⟩ = some (.int .u64 0) ∧ wx.cell? ⟨w.heap.size + 1, 2, none⟩ = some (.int .u64 0) ∧ wx.cell? ⟨w.heap.size + 1, 3, none⟩ = some (.int .u64 0)
      ∧ (∀ o, wx.frozen? ⟨w.heap.size + 1, o, none⟩ = false) ∧ Hid (u4 d0 d1 d2 d3 ∧ v4 d0 d1 d2 d3 = (v4 a0 a1 a2 a3 + h * W256) % p ∧ Below w.heap.size w wx))
    case first =>
      go_region_held3 (fun w' => w'.cell? ⟨w.heap.size, 0, none⟩ = some (.int .u64 c0) ∧ w'.cell? ⟨w.heap.size, 1, none⟩ = some (.int .u64 c1) ∧ w'.cell? ⟨w.heap.size, 2, none⟩ = some (.int .u64 c2) ∧ w'.cell? ⟨w.heap.size, 3, none⟩ = some (.int .u64 c3)) ((first | (go_keep; done) | ((try dsimp only); (repeat' apply And.intro); all_goals ((try simp only [World.cell?_drew]); (repeat (refine cell_alloc ?_)); (first | with_reducible assumption | (refine cell_setCell ?_ ?_; with_reducible assumption; (simp; omega))))))) (first | (go_at_call 76; refine Calls.mono (prime_any _) ?_; rintro e w3 ⟨rfl, rfl⟩) | (go_at_call 75; refine Calls.mono (less_any c0 c1 c2 c3 18446744073709551597 18446744073709551615 18446744073709551615 9223372036854775807 UC (by unfold Hid u4; omega) _) ?_; rintro e w4 ⟨d0, d1, d2, d3, rfl, ud, vd, rfl⟩))
      all_goals
        have fin : Hid (v4 d0 d1 d2 d3 = (v4 a0 a1 a2 a3 + h * W256) % p) := by
          show v4 d0 d1 d2 d3 = _
          have q1 := SV.out.1; have q2 := SV.out.2.1; have q3 := SV.out.2.2; have q := VC.out; rw [q1] at q
          rw [vd, v4_prime, settle_last HLT.out (by rw [q]; exact q2), q, q3]
        have UD : Hid (u4 d0 d1 d2 d3) := ud
        clear vd ud
        go_wp2_with fail
        go_meet
        case rel =>
          refine ⟨_, d0, d1, d2, d3, rfl, ?_, ?_, ?_, ?_, ?_, ?_, ?_, ?_, ?_, UD.out, fin.out, ?_⟩
          all_goals first
            | (simp [go_sem, *]; done)
            | (refine cell_later (w := w2) ?_ (by first | exact r0' | exact r1' | exact r2' | exact r3'); (repeat (first | exact Below.refl _ _ | refine Below.setCell ?_ (by simp; try omega) _ | refine Below.drew ?_ | refine Below.alloc ?_ (by simp; try omega) _)); done)
            | (intro o; refine Eq.trans (Below.frozen (B := w2.heap.size) (w := w2) ?_ ?_) (rf' o); (repeat (first | exact Below.refl _ _ | refine Below.setCell ?_ (by simp; try omega) _ | refine Below.drew ?_ | refine Below.alloc ?_ (by simp; try omega) _)); (simp; omega); done)
            | (refine B2.out.trans (Below.mono (B := w2.heap.size) ?_ (by omega)); (repeat (first | exact Below.refl _ _ | refine Below.setCell ?_ (by simp; try omega) _ | refine Below.drew ?_ | refine Below.alloc ?_ (by simp; try omega) _)); done)
    case rest =>
      obtain ⟨g, d0, d1, d2, d3, rfl, y0, y1, y2, y3, z0, z1, z2, z3, zf, HF⟩ := hcut
      go_wp2
      refine bodyPost_ret (v := .agg #[.int .u64 d0, .int .u64 d1, .int .u64 d2, .int .u64 d3]) (by simp [results, Try.results63, go_sem, *]) rfl ⟨d0, d1, d2, d3, rfl, HF.out.1, HF.out.2.1, ?_⟩
      repeat (first | exact HF.out.2.2 | refine Below.setCell ?_ (by simp) _)

end Go.Proofs.Ytdebfelgaiofeaa
