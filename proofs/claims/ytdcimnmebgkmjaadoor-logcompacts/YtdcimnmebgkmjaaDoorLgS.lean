/- The record that bytes begin with. -/
import Derived.Test.YtdcimnmebgkmjaaDoorLgR
namespace Go.Proofs.YtdcimnmebgkmjaaDoor
open Go.RowKit Go.Proofs.Fd Go.Proofs.Dk Go.Proofs.Lg
set_option maxRecDepth 20000

/-- What recordOf answers. -/
def rofV (b a : Bs) : Value := match rof b a with
  | none => .tuple #[rv [] [], .bool false]
  | some t => .tuple #[rv (rmk a t) t, .bool true]
theorem emp : (⟨#[]⟩ : ByteArray) = st [] := rfl
theorem blk_rec (w : World) : Hid (Blk (w.alloc (.cells #[.string ⟨#[]⟩, .string ⟨#[]⟩] 86)) w.heap.size [.string ⟨#[]⟩, .string ⟨#[]⟩] ∧ Below w.heap.size w (w.alloc (.cells #[.string ⟨#[]⟩, .string ⟨#[]⟩] 86))) := ⟨Blk.new w _ _ (by simp), (Below.refl _ _).alloc (Nat.le_refl _) _⟩
set_option maxHeartbeats 1000000 in
theorem lrecordOf_no (X A : ByteArray) (w : World) (h : X.size < 64) : Calls Tryd.prog 67 #[.string X, .string A] w fun e w' => e = .returned (.tuple #[rv [] [], .bool false]) ∧ Below w.heap.size w w' := by
  have g1 : (X.size : Int) < 64 := by omega
  have I0 := blk_rec w
  clear h
  go_enter Tryd.func67, Tryd.ntmps67
  go_wp2
  refine bodyPost_ret (v := .tuple #[.agg #[.string ⟨#[]⟩, .string ⟨#[]⟩], .bool false]) ?_ rfl ⟨rfl, I0.out.2⟩
  exact res_c2 Tryd.results67 _ _ w.heap.size _ _ (by kernel_rfl) (by kernel_rfl) (run_loadVar_mid _ w.heap.size 0 86 [.string ⟨#[]⟩, .string ⟨#[]⟩] _ I0.out.1.r Tryd.underlying86 rfl (by kernel_rfl))
set_option maxHeartbeats 2000000 in
theorem lrecordOf_bad (X A : ByteArray) (w : World) (h : ¬ X.size < 64) (c0 c1 : UInt8) (l0 : 0 < X.size) (l1 : 1 < X.size) (hc0 : X[0] = c0) (hc1 : X[1] = c1) (n : Nat) (hn : c0.toNat * 256 + c1.toNat = n) (hb : n < 1 ∨ 2000 < n ∨ X.size < 18 + n) : Calls Tryd.prog 67 #[.string X, .string A] w fun e w' => e = .returned (.tuple #[rv [] [], .bool false]) ∧ Below w.heap.size w w' := by
  have g1 : ¬ (X.size : Int) < 64 := by omega
  have z0 : (0 : Int) < (X.size : Int) := by omega
  have z1 : (1 : Int) < (X.size : Int) := by omega
  have q0 := c0.toNat_lt
  have q1 := c1.toNat_lt
  have t0 : IntKind.i64.wrap (c0.toNat : Int) = (c0.toNat : Int) := by rw [IntKind.wrap_i64]; omega
  have t1 : IntKind.i64.wrap (c1.toNat : Int) = (c1.toNat : Int) := by rw [IntKind.wrap_i64]; omega
  have t2 : IntKind.i64.wrap ((c0.toNat : Int) * 256) = (c0.toNat : Int) * 256 := by rw [IntKind.wrap_i64]; omega
  have OW : bits .or .i64 ((c0.toNat : Int) * 256) (c1.toNat : Int) = (n : Int) := by rw [← hn]; exact or_low c0.toNat c1 (by omega)
  have hn2 : n < 65536 := by omega
  have I0 := blk_rec w
  clear q0 q1 hn
  by_cases h1 : n < 1
  · have g2 : (n : Int) < 1 := by omega
    clear hb
    go_enter Tryd.func67, Tryd.ntmps67
    go_wp2_with fail
    go_region_with fail
    all_goals go_wp2
    all_goals (refine bodyPost_ret (v := .tuple #[.agg #[.string ⟨#[]⟩, .string ⟨#[]⟩], .bool false]) ?_ rfl ⟨rfl, I0.out.2.drew⟩)
    all_goals (exact res_c2 Tryd.results67 _ _ w.heap.size _ _ (by kernel_rfl) (by kernel_rfl) (run_loadVar_mid _ w.heap.size 0 86 [.string ⟨#[]⟩, .string ⟨#[]⟩] _ I0.out.1.drew.r Tryd.underlying86 rfl (by kernel_rfl)))
  · have g2 : ¬ (n : Int) < 1 := by omega
    by_cases h2 : 2000 < n
    · have g3 : (2000 : Int) < (n : Int) := by omega
      clear hb
      go_enter Tryd.func67, Tryd.ntmps67
      go_wp2_with fail
      go_region_with fail
      all_goals go_wp2
      all_goals (refine bodyPost_ret (v := .tuple #[.agg #[.string ⟨#[]⟩, .string ⟨#[]⟩], .bool false]) ?_ rfl ⟨rfl, I0.out.2.drew⟩)
      all_goals (exact res_c2 Tryd.results67 _ _ w.heap.size _ _ (by kernel_rfl) (by kernel_rfl) (run_loadVar_mid _ w.heap.size 0 86 [.string ⟨#[]⟩, .string ⟨#[]⟩] _ I0.out.1.drew.r Tryd.underlying86 rfl (by kernel_rfl)))
    · have g3 : ¬ (2000 : Int) < (n : Int) := by omega
      have g4 : (X.size : Int) < 18 + (n : Int) := by omega
      clear hb
      go_enter Tryd.func67, Tryd.ntmps67
      go_wp2_with fail
      go_region_with fail
      all_goals go_wp2
      all_goals (refine bodyPost_ret (v := .tuple #[.agg #[.string ⟨#[]⟩, .string ⟨#[]⟩], .bool false]) ?_ rfl ⟨rfl, I0.out.2.drew⟩)
      all_goals (exact res_c2 Tryd.results67 _ _ w.heap.size _ _ (by kernel_rfl) (by kernel_rfl) (run_loadVar_mid _ w.heap.size 0 86 [.string ⟨#[]⟩, .string ⟨#[]⟩] _ I0.out.1.drew.r Tryd.underlying86 rfl (by kernel_rfl)))
set_option maxHeartbeats 4000000 in
theorem lrecordOf_ok (X A T M R : ByteArray) (w : World) (hk : Hid (Kh w)) (h : ¬ X.size < 64) (c0 c1 : UInt8) (l0 : 0 < X.size) (l1 : 1 < X.size) (hc0 : X[0] = c0) (hc1 : X[1] = c1) (n : Nat) (hn : c0.toNat * 256 + c1.toNat = n) (h1 : 1 ≤ n) (h2 : n ≤ 2000) (h3 : 18 + n ≤ X.size) (hT : X.extract 18 (18 + n) = T)
    (NX : Hid (∀ w, Kh w → Calls Tryd.prog 53 #[.string A, .string T] w fun e w' => e = .returned (.agg #[.string M, .string T]) ∧ Below w.heap.size w w'))
    (SC : Hid (∀ w, Calls Tryd.prog 54 #[.agg #[.string M, .string T]] w fun e w' => e = .returned (.string R) ∧ Below w.heap.size w w'))
    (v : Bool) (PF : Hid (∀ w, Calls Tryd.prog 82 #[.string X, .string R] w fun e w' => e = .returned (.bool v) ∧ w' = w)) :
    Calls Tryd.prog 67 #[.string X, .string A] w fun e w' => e = .returned (if v = true then .tuple #[.agg #[.string M, .string T], .bool true] else .tuple #[.agg #[.string ⟨#[]⟩, .string ⟨#[]⟩], .bool false]) ∧ Below w.heap.size w w' := by
  have g1 : ¬ (X.size : Int) < 64 := by omega
  have z0 : (0 : Int) < (X.size : Int) := by omega
  have z1 : (1 : Int) < (X.size : Int) := by omega
  have q0 := c0.toNat_lt
  have q1 := c1.toNat_lt
  have t0 : IntKind.i64.wrap (c0.toNat : Int) = (c0.toNat : Int) := by rw [IntKind.wrap_i64]; omega
  have t1 : IntKind.i64.wrap (c1.toNat : Int) = (c1.toNat : Int) := by rw [IntKind.wrap_i64]; omega
  have t2 : IntKind.i64.wrap ((c0.toNat : Int) * 256) = (c0.toNat : Int) * 256 := by rw [IntKind.wrap_i64]; omega
  have OW : bits .or .i64 ((c0.toNat : Int) * 256) (c1.toNat : Int) = (n : Int) := by rw [← hn]; exact or_low c0.toNat c1 (by omega)
  have hn2 : n < 65536 := by omega
  have g2 : ¬ (n : Int) < 1 := by omega
  have g3 : ¬ (2000 : Int) < (n : Int) := by omega
  have g4 : ¬ (X.size : Int) < 18 + (n : Int) := by omega
  have g5 : (18 : Int) ≤ 18 + (n : Int) := by omega
  have g6 : 18 + (n : Int) ≤ (X.size : Int) := by omega
  have I0 := blk_rec w
  have B0 := I0.out.2.drew
  have K0 : Hid (Kh (w.alloc (.cells #[.string ⟨#[]⟩, .string ⟨#[]⟩] 86)).drew) := hk.out.later B0
  have I1 : Hid (_ ∧ _) := And.intro I0.out.1.drew B0
  clear q0 q1 hn h1 h2 h3 I0 B0
  go_enter Tryd.func67, Tryd.ntmps67
  go_wp2_with fail
  go_region_with fail
  all_goals go_wp2_with fail
  all_goals
    refine Calls.mono (NX.out _ K0.out) ?_
    rintro e w1 ⟨rfl, hb⟩
    have I2 : Hid (_ ∧ _) := And.intro (I1.out.1.later hb) (chain I1.out.2 hb)
    clear hb K0 I1
    have J2 : Hid (_ ∧ _ ∧ _) := ⟨I2.out.1.later ((Below.refl _ w1).alloc (Nat.le_refl _) (.cells #[.string M, .string T] 86)), Blk.new w1 [.string M, .string T] 86 (by simp), chain I2.out.2 ((Below.refl _ w1).alloc (Nat.le_refl _) (.cells #[.string M, .string T] 86))⟩
    clear I2
    go_wp2_with fail
    refine Calls.mono (SC.out _) ?_
    rintro e w2 ⟨rfl, hb⟩
    have I3 : Hid (_ ∧ _ ∧ _) := ⟨J2.out.1.later hb, J2.out.2.1.later hb, chain J2.out.2.2 hb⟩
    clear hb J2
    have k0 := I3.out.1.c 0 _ rfl
    have k1 := I3.out.1.c 1 _ rfl
    have k2 := I3.out.1.f
    have r0 := I3.out.2.1.c 0 _ rfl
    have r1 := I3.out.2.1.c 1 _ rfl
    go_wp2_with fail
    refine Calls.mono (PF.out _) ?_
    rintro e w3 ⟨rfl, rfl⟩
    cases v
    · have FI : Hid (_ ∧ _) := And.intro (I3.out.1.put [.string ⟨#[]⟩, .string ⟨#[]⟩] rfl) (below_sets (Nat.le_refl _) [.string ⟨#[]⟩, .string ⟨#[]⟩] 0 I3.out.2.2)
      clear I3
      go_wp2
      refine bodyPost_ret (v := .tuple #[.agg #[.string ⟨#[]⟩, .string ⟨#[]⟩], .bool false]) ?_ rfl ⟨by simp, FI.out.2⟩
      exact res_c2 Tryd.results67 _ _ w.heap.size _ _ (by kernel_rfl) (by kernel_rfl) (run_loadVar_mid _ w.heap.size 0 86 [.string ⟨#[]⟩, .string ⟨#[]⟩] _ FI.out.1.r Tryd.underlying86 rfl (by kernel_rfl))
    · have FI : Hid (_ ∧ _) := And.intro (I3.out.1.put [.string M, .string T] rfl) (below_sets (Nat.le_refl _) [.string M, .string T] 0 I3.out.2.2)
      clear I3
      go_wp2
      refine bodyPost_ret (v := .tuple #[.agg #[.string M, .string T], .bool true]) ?_ rfl ⟨by simp, FI.out.2⟩
      exact res_c2 Tryd.results67 _ _ w.heap.size _ _ (by kernel_rfl) (by kernel_rfl) (run_loadVar_mid _ w.heap.size 0 86 [.string M, .string T] _ FI.out.1.r Tryd.underlying86 rfl (by kernel_rfl))
theorem lrecordOf_any (b a : Bs) (ha : a.length = 16) (w : World) (hk : Hid (Kh w)) : Calls Tryd.prog 67 #[sv b, sv a] w fun e w' => e = .returned (rofV b a) ∧ Below w.heap.size w w' := by
  have hs : (st b).size = b.length := st_size b
  unfold rofV rof
  by_cases h : b.length < 64
  · rw [if_pos h]
    exact lrecordOf_no (st b) (st a) w (by omega)
  · rw [if_neg h]
    obtain ⟨c0, c1, r, rfl⟩ : ∃ c0 c1 r, b = c0 :: c1 :: r := by
      match b, h with
      | c0 :: c1 :: r, _ => exact ⟨c0, c1, r, rfl⟩
      | [_], h => simp at h
      | [], h => simp at h
    have en : nm ((c0 :: c1 :: r).take 2) = c0.toNat * 256 + c1.toNat := by simp [nm]
    rw [en]
    obtain ⟨n, hn⟩ : ∃ n, c0.toNat * 256 + c1.toNat = n := ⟨_, rfl⟩
    rw [hn]
    by_cases hb : n < 1 ∨ 2000 < n ∨ (c0 :: c1 :: r).length < 18 + n
    · rw [if_pos hb]
      exact lrecordOf_bad (st (c0 :: c1 :: r)) (st a) w (by omega) c0 c1 (by omega) (by omega) rfl rfl n hn (by rw [hs]; exact hb)
    · rw [if_neg hb]
      obtain ⟨t, ht⟩ : ∃ t, ((c0 :: c1 :: r).drop 18).take n = t := ⟨_, rfl⟩
      rw [ht]
      have hl : t.length ≤ 2000 := by rw [← ht, List.length_take]; omega
      have eT : (st (c0 :: c1 :: r)).extract 18 (18 + n) = st t := by
        rw [st_cut, ← ht, List.drop_take, show 18 + n - 18 = n by omega]
      have := lrecordOf_ok (st (c0 :: c1 :: r)) (st a) (st t) (st (rmk a t)) (st (rcd a t)) w hk (by omega) c0 c1 (by omega) (by omega) rfl rfl n hn (by omega) (by omega) (by omega) eT
        (fun w h => lnext_any a t ha hl w h) (fun w => lsectors_any (rmk a t) t rfl hl w) _ (fun w => lprefix_any _ _ w)
      refine this.mono fun e w' ⟨he, hb⟩ => ⟨?_, hb⟩
      rw [he]
      have e2 : (st (rcd a t)).data.toList.isPrefixOf (st (c0 :: c1 :: r)).data.toList = (rcd a t).isPrefixOf (c0 :: c1 :: r) := rfl
      rw [e2]
      split <;> rfl
end Go.Proofs.YtdcimnmebgkmjaaDoor
