/- Parts: LgS, LgQ, LgT, LgU, LgH. -/
import Derived.Test.YtjpaodepnacimaaGreatDoorZbG12
namespace Go.Proofs.YtjpaodepnacimaaGreatDoor
open Go.RowKit Go.Proofs.Fd Go.Proofs.Dk Go.Proofs.Lg
set_option maxRecDepth 20000
def rofV (b a : Bs) : Value := match rof b a with
  | none => .tuple #[rv [] [], .bool false]
  | some t => .tuple #[rv (rmk a t) t, .bool true]
theorem blk_rec (w : World) : Hid (Blk (w.alloc (.cells #[.string ⟨#[]⟩, .string ⟨#[]⟩] 176)) w.heap.size [.string ⟨#[]⟩, .string ⟨#[]⟩] ∧ Below w.heap.size w (w.alloc (.cells #[.string ⟨#[]⟩, .string ⟨#[]⟩] 176))) := ⟨Blk.new w _ _ (by simp), (Below.refl _ _).alloc (Nat.le_refl _) _⟩
set_option maxHeartbeats 1000000 in
theorem lrecordOf_no (X A : ByteArray) (w : World) (h : X.size < 64) : Calls Tryz.prog 131 #[.string X, .string A] w fun e w' => e = .returned (.tuple #[rv [] [], .bool false]) ∧ Below w.heap.size w w' := by
  have g1 : (X.size : Int) < 64 := by omega
  have I0 := blk_rec w
  clear h
  go_enter Tryz.func131, Tryz.ntmps131
  go_wp2
  refine bodyPost_ret (v := .tuple #[.agg #[.string ⟨#[]⟩, .string ⟨#[]⟩], .bool false]) ?_ rfl ⟨rfl, I0.out.2⟩
  exact res_c2 Tryz.results131 _ _ w.heap.size _ _ (by kernel_rfl) (by kernel_rfl) (run_loadVar_mid _ w.heap.size 0 176 [.string ⟨#[]⟩, .string ⟨#[]⟩] _ I0.out.1.r Tryz.underlying176 rfl (by kernel_rfl))
set_option maxHeartbeats 2000000 in
theorem lrecordOf_bad (X A : ByteArray) (w : World) (h : ¬ X.size < 64) (c0 c1 : UInt8) (l0 : 0 < X.size) (l1 : 1 < X.size) (hc0 : X[0] = c0) (hc1 : X[1] = c1) (n : Nat) (hn : c0.toNat * 256 + c1.toNat = n) (hb : n < 1 ∨ 2000 < n ∨ X.size < 18 + n) : Calls Tryz.prog 131 #[.string X, .string A] w fun e w' => e = .returned (.tuple #[rv [] [], .bool false]) ∧ Below w.heap.size w w' := by
  have g1 : ¬ (X.size : Int) < 64 := by omega
  have z0 : (0 : Int) < (X.size : Int) := by omega
  have z1 : (1 : Int) < (X.size : Int) := by omega
  have q0 := c0.toNat_lt
  have q1 := c1.toNat_lt
  have t0 : IntKind.i64.wrap (c0.toNat : Int) = (c0.toNat : Int) := by rw [IntKind.wrap_i64]; omega
  have t1 : IntKind.i64.wrap (c1.toNat : Int) = (c1.toNat : Int) := by rw [IntKind.wrap_i64]; omega
  have t2 : IntKind.i64.wrap ((c0.toNat : Int) * 256) = (c0.toNat : Int) * 256 := by rw [IntKind.wrap_i64]; omega
  have OW : bits .or .i64 ((c0.toNat : Int) * 256) (c1.toNat : Int) = (n : Int) := by rw [← hn]; exact or_low c0.toNat c1 (by omega)
  have hn2 : n < 65536 := by omega
  have I0 := blk_rec w
  clear q0 q1 hn
  by_cases h1 : n < 1
  · have g2 : (n : Int) < 1 := by omega
    clear hb
    go_enter Tryz.func131, Tryz.ntmps131
    go_wp2_with fail
    go_region_with fail
    all_goals go_wp2
    all_goals (refine bodyPost_ret (v := .tuple #[.agg #[.string ⟨#[]⟩, .string ⟨#[]⟩], .bool false]) ?_ rfl ⟨rfl, I0.out.2.drew⟩)
    all_goals (exact res_c2 Tryz.results131 _ _ w.heap.size _ _ (by kernel_rfl) (by kernel_rfl) (run_loadVar_mid _ w.heap.size 0 176 [.string ⟨#[]⟩, .string ⟨#[]⟩] _ I0.out.1.drew.r Tryz.underlying176 rfl (by kernel_rfl)))
  · have g2 : ¬ (n : Int) < 1 := by omega
    by_cases h2 : 2000 < n
    · have g3 : (2000 : Int) < (n : Int) := by omega
      clear hb
      go_enter Tryz.func131, Tryz.ntmps131
      go_wp2_with fail
      go_region_with fail
      all_goals go_wp2
      all_goals (refine bodyPost_ret (v := .tuple #[.agg #[.string ⟨#[]⟩, .string ⟨#[]⟩], .bool false]) ?_ rfl ⟨rfl, I0.out.2.drew⟩)
      all_goals (exact res_c2 Tryz.results131 _ _ w.heap.size _ _ (by kernel_rfl) (by kernel_rfl) (run_loadVar_mid _ w.heap.size 0 176 [.string ⟨#[]⟩, .string ⟨#[]⟩] _ I0.out.1.drew.r Tryz.underlying176 rfl (by kernel_rfl)))
    · have g3 : ¬ (2000 : Int) < (n : Int) := by omega
      have g4 : (X.size : Int) < 18 + (n : Int) := by omega
      clear hb
      go_enter Tryz.func131, Tryz.ntmps131
      go_wp2_with fail
      go_region_with fail
      all_goals go_wp2
      all_goals (refine bodyPost_ret (v := .tuple #[.agg #[.string ⟨#[]⟩, .string ⟨#[]⟩], .bool false]) ?_ rfl ⟨rfl, I0.out.2.drew⟩)
      all_goals (exact res_c2 Tryz.results131 _ _ w.heap.size _ _ (by kernel_rfl) (by kernel_rfl) (run_loadVar_mid _ w.heap.size 0 176 [.string ⟨#[]⟩, .string ⟨#[]⟩] _ I0.out.1.drew.r Tryz.underlying176 rfl (by kernel_rfl)))
set_option maxHeartbeats 4000000 in
theorem lrecordOf_ok (X A T M R : ByteArray) (w : World) (hk : Hid (Kh w)) (h : ¬ X.size < 64) (c0 c1 : UInt8) (l0 : 0 < X.size) (l1 : 1 < X.size) (hc0 : X[0] = c0) (hc1 : X[1] = c1) (n : Nat) (hn : c0.toNat * 256 + c1.toNat = n) (h1 : 1 ≤ n) (h2 : n ≤ 2000) (h3 : 18 + n ≤ X.size) (hT : X.extract 18 (18 + n) = T)
    (NX : Hid (∀ w, Kh w → Calls Tryz.prog 124 #[.string A, .string T] w fun e w' => e = .returned (.agg #[.string M, .string T]) ∧ Below w.heap.size w w'))
    (SC : Hid (∀ w, Calls Tryz.prog 125 #[.agg #[.string M, .string T]] w fun e w' => e = .returned (.string R) ∧ Below w.heap.size w w'))
    (v : Bool) (PF : Hid (∀ w, Calls Tryz.prog 150 #[.string X, .string R] w fun e w' => e = .returned (.bool v) ∧ w' = w)) :
    Calls Tryz.prog 131 #[.string X, .string A] w fun e w' => e = .returned (if v = true then .tuple #[.agg #[.string M, .string T], .bool true] else .tuple #[.agg #[.string ⟨#[]⟩, .string ⟨#[]⟩], .bool false]) ∧ Below w.heap.size w w' := by
  have g1 : ¬ (X.size : Int) < 64 := by omega
  have z0 : (0 : Int) < (X.size : Int) := by omega
  have z1 : (1 : Int) < (X.size : Int) := by omega
  have q0 := c0.toNat_lt
  have q1 := c1.toNat_lt
  have t0 : IntKind.i64.wrap (c0.toNat : Int) = (c0.toNat : Int) := by rw [IntKind.wrap_i64]; omega
  have t1 : IntKind.i64.wrap (c1.toNat : Int) = (c1.toNat : Int) := by rw [IntKind.wrap_i64]; omega
  have t2 : IntKind.i64.wrap ((c0.toNat : Int) * 256) = (c0.toNat : Int) * 256 := by rw [IntKind.wrap_i64]; omega
  have OW : bits .or .i64 ((c0.toNat : Int) * 256) (c1.toNat : Int) = (n : Int) := by rw [← hn]; exact or_low c0.toNat c1 (by omega)
  have hn2 : n < 65536 := by omega
  have g2 : ¬ (n : Int) < 1 := by omega
  have g3 : ¬ (2000 : Int) < (n : Int) := by omega
  have g4 : ¬ (X.size : Int) < 18 + (n : Int) := by omega
  have g5 : (18 : Int) ≤ 18 + (n : Int) := by omega
  have g6 : 18 + (n : Int) ≤ (X.size : Int) := by omega
  have I0 := blk_rec w
  have B0 := I0.out.2.drew
  have K0 : Hid (Kh (w.alloc (.cells #[.string ⟨#[]⟩, .string ⟨#[]⟩] 176)).drew) := hk.out.later B0
  have I1 : Hid (_ ∧ _) := And.intro I0.out.1.drew B0
  clear q0 q1 hn h1 h2 h3 I0 B0
  go_enter Tryz.func131, Tryz.ntmps131
  go_wp2_with fail
  go_region_with fail
  all_goals go_wp2_with fail
  all_goals
    refine Calls.mono (NX.out _ K0.out) ?_
    rintro e w1 ⟨rfl, hb⟩
    have I2 : Hid (_ ∧ _) := And.intro (I1.out.1.later hb) (chain I1.out.2 hb)
    clear hb K0 I1
    have J2 : Hid (_ ∧ _ ∧ _) := ⟨I2.out.1.later ((Below.refl _ w1).alloc (Nat.le_refl _) (.cells #[.string M, .string T] 176)), Blk.new w1 [.string M, .string T] 176 (by simp), chain I2.out.2 ((Below.refl _ w1).alloc (Nat.le_refl _) (.cells #[.string M, .string T] 176))⟩
    clear I2
    go_wp2_with fail
    refine Calls.mono (SC.out _) ?_
    rintro e w2 ⟨rfl, hb⟩
    have I3 : Hid (_ ∧ _ ∧ _) := ⟨J2.out.1.later hb, J2.out.2.1.later hb, chain J2.out.2.2 hb⟩
    clear hb J2
    have k0 := I3.out.1.c 0 _ rfl
    have k1 := I3.out.1.c 1 _ rfl
    have k2 := I3.out.1.f
    have r0 := I3.out.2.1.c 0 _ rfl
    have r1 := I3.out.2.1.c 1 _ rfl
    go_wp2_with fail
    refine Calls.mono (PF.out _) ?_
    rintro e w3 ⟨rfl, rfl⟩
    cases v
    · have FI : Hid (_ ∧ _) := And.intro (I3.out.1.put [.string ⟨#[]⟩, .string ⟨#[]⟩] rfl) (below_sets (Nat.le_refl _) [.string ⟨#[]⟩, .string ⟨#[]⟩] 0 I3.out.2.2)
      clear I3
      go_wp2
      refine bodyPost_ret (v := .tuple #[.agg #[.string ⟨#[]⟩, .string ⟨#[]⟩], .bool false]) ?_ rfl ⟨by simp, FI.out.2⟩
      exact res_c2 Tryz.results131 _ _ w.heap.size _ _ (by kernel_rfl) (by kernel_rfl) (run_loadVar_mid _ w.heap.size 0 176 [.string ⟨#[]⟩, .string ⟨#[]⟩] _ FI.out.1.r Tryz.underlying176 rfl (by kernel_rfl))
    · have FI : Hid (_ ∧ _) := And.intro (I3.out.1.put [.string M, .string T] rfl) (below_sets (Nat.le_refl _) [.string M, .string T] 0 I3.out.2.2)
      clear I3
      go_wp2
      refine bodyPost_ret (v := .tuple #[.agg #[.string M, .string T], .bool true]) ?_ rfl ⟨by simp, FI.out.2⟩
      exact res_c2 Tryz.results131 _ _ w.heap.size _ _ (by kernel_rfl) (by kernel_rfl) (run_loadVar_mid _ w.heap.size 0 176 [.string M, .string T] _ FI.out.1.r Tryz.underlying176 rfl (by kernel_rfl))
theorem lrecordOf_any (b a : Bs) (ha : a.length = 16) (w : World) (hk : Hid (Kh w)) : Calls Tryz.prog 131 #[sv b, sv a] w fun e w' => e = .returned (rofV b a) ∧ Below w.heap.size w w' := by
  have hs : (st b).size = b.length := st_size b
  unfold rofV rof
  by_cases h : b.length < 64
  · rw [if_pos h]
    exact lrecordOf_no (st b) (st a) w (by omega)
  · rw [if_neg h]
    obtain ⟨c0, c1, r, rfl⟩ : ∃ c0 c1 r, b = c0 :: c1 :: r := by
      match b, h with
      | c0 :: c1 :: r, _ => exact ⟨c0, c1, r, rfl⟩
      | [_], h => simp at h
      | [], h => simp at h
    have en : nm ((c0 :: c1 :: r).take 2) = c0.toNat * 256 + c1.toNat := by simp [nm]
    rw [en]
    obtain ⟨n, hn⟩ : ∃ n, c0.toNat * 256 + c1.toNat = n := ⟨_, rfl⟩
    rw [hn]
    by_cases hb : n < 1 ∨ 2000 < n ∨ (c0 :: c1 :: r).length < 18 + n
    · rw [if_pos hb]
      exact lrecordOf_bad (st (c0 :: c1 :: r)) (st a) w (by omega) c0 c1 (by omega) (by omega) rfl rfl n hn (by rw [hs]; exact hb)
    · rw [if_neg hb]
      obtain ⟨t, ht⟩ : ∃ t, ((c0 :: c1 :: r).drop 18).take n = t := ⟨_, rfl⟩
      rw [ht]
      have hl : t.length ≤ 2000 := by rw [← ht, List.length_take]; omega
      have eT : (st (c0 :: c1 :: r)).extract 18 (18 + n) = st t := by
        rw [st_cut, ← ht, List.drop_take, show 18 + n - 18 = n by omega]
      have := lrecordOf_ok (st (c0 :: c1 :: r)) (st a) (st t) (st (rmk a t)) (st (rcd a t)) w hk (by omega) c0 c1 (by omega) (by omega) rfl rfl n hn (by omega) (by omega) (by omega) eT
        (fun w h => lnext_any a t ha hl w h) (fun w => lsectors_any (rmk a t) t rfl hl w) _ (fun w => lprefix_any _ _ w)
      refine this.mono fun e w' ⟨he, hb⟩ => ⟨?_, hb⟩
      rw [he]
      have e2 : (st (rcd a t)).data.toList.isPrefixOf (st (c0 :: c1 :: r)).data.toList = (rcd a t).isPrefixOf (c0 :: c1 :: r) := rfl
      rw [e2]
      split <;> rfl
end Go.Proofs.YtjpaodepnacimaaGreatDoor
namespace Go.Proofs.YtjpaodepnacimaaGreatDoor
open Go.RowKit Go.Proofs.Fd Go.Proofs.Dk Go.Proofs.Lg
set_option maxRecDepth 20000
abbrev plc (p fr mn : Nat) : Value := .agg #[.pointer (some ⟨p, 0, none⟩), .int .i64 (fr : Int), .int .i64 (mn : Int)]
theorem cut_run (X : ByteArray) (i j : Nat) (x y : Int) (hx : x = (i : Int)) (hy : y = (j : Int)) (h1 : i ≤ j) (h2 : j ≤ X.size) (w : World) : (Instr.slice 9 (.string X) (some (.int .i64 x)) (some (.int .i64 y)) none).run Tryz.prog w = .ok (.string (X.extract i j)) w := by
  subst hx hy
  have h3 : (0 : Int) ≤ (j : Int) := by omega
  have h4 : (0 : Int) ≤ (i : Int) := by omega
  have h5 : (i : Int) ≤ (j : Int) := by omega
  have h6 : (j : Int) ≤ (X.size : Int) := by omega
  simp [Instr.slice, Instr.sliceBounds, Instr.sliceBound, asIntOf, run_underlying Tryz.underlying9, h1, h2]
def Ds (w wr : World) (p : Nat) (F : Nat → Prop) (s : St) (w' : World) : Prop := ∃ F', Dl w w' p F' s ∧ Nx wr F F' ∧ Bf F wr w'
theorem wrs_next {s : St} {k j m : Nat} {b : Bs} (hj : j < m) : wrs s (k + j) (chs (m - j) (b.drop (64 * j))) = thn (wrE s ((k + j : Nat) : Int) ((b.drop (64 * j)).take 64), wrS s ((k + j : Nat) : Int) ((b.drop (64 * j)).take 64)) fun s' => wrs s' (k + (j + 1)) (chs (m - (j + 1)) (b.drop (64 * (j + 1)))) := by
  obtain ⟨d, hd⟩ : ∃ d, m - j = d + 1 := ⟨m - j - 1, by omega⟩
  rw [hd, chs, wrs, show m - (j + 1) = d by omega, List.drop_drop, show 64 * j + 64 = 64 * (j + 1) by omega]
  rfl
theorem wrS_len (s : St) (k : Int) (t : Bs) : (wrS s k t).l.length ≤ s.l.length + 1 := by
  unfold wrS
  split
  · omega
  · split
    · omega
    · split
      · show s.l.length ≤ _
        omega
      · show (s.l ++ [_]).length ≤ _
        rw [List.length_append]
        exact Nat.le_refl _
theorem Nx.apart {w : World} {F F' : Nat → Prop} (h : Nx w F F') {B : Nat} (hF : ¬ F B) (hl : B < w.heap.size) : ¬ F' B := fun c => by
  rcases h B c with e | e
  · exact hF e
  · omega
structure Wr (w wr0 : World) (p : Nat) (F : Nat → Prop) (fr mn : Nat) (wr : World) (F' : Nat → Prop) (s : St) : Prop where
  dl : Dl w wr p F' s
  nx : Nx wr0 F F'
  bf : Bf F wr0 wr
  bk : Blk wr wr0.heap.size [.pointer (some ⟨p, 0, none⟩), .int .i64 (fr : Int), .int .i64 (mn : Int)]
  ap : ¬ F' wr0.heap.size
theorem Wr.stp {w wr0 wr wr' : World} {p : Nat} {F F' F'' : Nat → Prop} {fr mn : Nat} {s t : St} (h : Wr w wr0 p F fr mn wr F' s) (k : Dl w wr' p F'' t) (hx : Nx wr F' F'') (hb : Bf F' wr wr') : Wr w wr0 p F fr mn wr' F'' t :=
  ⟨k, h.nx.trans hx h.bf.size, h.bf.trans h.nx hb, h.bk.bf hb h.ap, hx.apart h.ap h.bk.lt⟩
theorem Wr.begin {w wr : World} {p : Nat} {F : Nat → Prop} {s : St} (h : Dl w wr p F s) (fr mn : Nat) (ty : TypeId) : Wr w wr p F fr mn (wr.alloc (.cells #[.pointer (some ⟨p, 0, none⟩), .int .i64 (fr : Int), .int .i64 (mn : Int)] ty)) F s :=
  ⟨h.later ((Below.refl _ _).alloc (Nat.le_refl _) _), Nx.refl _ _, Bf.of ((Below.refl _ _).alloc (Nat.le_refl _) _), Blk.new wr _ ty (by simp), fun c => Nat.lt_irrefl _ (h.at_.lt c)⟩
theorem Wr.ds {w wr0 wr : World} {p : Nat} {F F' : Nat → Prop} {fr mn : Nat} {s : St} (h : Wr w wr0 p F fr mn wr F' s) : Ds w wr0 p F s wr := ⟨F', h.dl, h.nx, h.bf⟩
theorem Wr.drew {w wr0 wr : World} {p : Nat} {F F' : Nat → Prop} {fr mn : Nat} {s : St} (h : Wr w wr0 p F fr mn wr F' s) : Wr w wr0 p F fr mn wr.drew F' s :=
  ⟨h.dl.later (Below.refl _ _).drew, h.nx, h.bf.later (Below.refl _ _).drew, h.bk.drew, h.ap⟩
set_option maxHeartbeats 2000000 in
theorem lwrite_any (w v : World) (p : Nat) (F : Nat → Prop) (s : St) (fr at_ mn : Nat) (b : Bs) (m : Nat) (hb : b.length = 64 * m) (hm : m ≤ 100) (hz : fr + at_ ≤ 4000) (hl : s.l.length + m ≤ 1000000) (h : Hid (Dl w v p F s)) :
    Calls Tryz.prog 106 #[plc p fr mn, .int .i64 (at_ : Int), sv b] v fun e w' => e = .returned (.int .i64 (wrb s (fr + at_) b).1) ∧ Ds w v p F (wrb s (fr + at_) b).2 w' := by
  have hs : (st b).size = 64 * m := by rw [st_size, hb]
  have I0 : Hid (Wr w v p F fr mn _ F s) := Wr.begin h.out fr mn 128
  have CUT : Hid (∀ j, (st b).extract (64 * j) (64 * j + 64) = st ((b.drop (64 * j)).take 64)) := fun j => by
    rw [st_cut, List.drop_take, show 64 * j + 64 - 64 * j = 64 by omega]
  have EW : Hid (wrb s (fr + at_) b = wrs s (fr + at_) (chs m b)) := by
    show wrb s (fr + at_) b = _
    rw [wrb, hb, show 64 * m / 64 = m by omega]
  have WL : Hid (∀ (wr : World) (F : Nat → Prop) (s : St) (k : Int) (t : Bs), s.l.length ≤ 1000000 → Dl w wr p F s → Calls Tryz.prog 136 #[.pointer (some ⟨p, 0, none⟩), .int .i64 k, .string (st t)] wr fun e w' => e = .returned (.int .i64 (wrE s k t)) ∧ ∃ F', Dl w w' p F' (wrS s k t) ∧ Nx wr F F' ∧ Bf F wr w') := fun wr F s k t hl h => writeL w wr p F s k (st t) hl h
  obtain ⟨r, hr⟩ : ∃ r, wrb s (fr + at_) b = r := ⟨_, rfl⟩
  rw [hr] at EW ⊢
  obtain ⟨X, hX⟩ : ∃ X, st b = X := ⟨_, rfl⟩
  unfold sv plc
  rw [hX] at hs CUT ⊢
  have HS : Hid (X.size = 64 * m) := hs
  clear hX hr hb h hs
  obtain ⟨wa, hwa⟩ : ∃ wa, v.alloc (.cells #[.pointer (some ⟨p, 0, none⟩), .int .i64 (fr : Int), .int .i64 (mn : Int)] 128) = wa := ⟨_, rfl⟩
  obtain ⟨B, hB⟩ : ∃ B, v.heap.size = B := ⟨_, rfl⟩
  rw [hwa] at I0
  go_enter Tryz.func106, Tryz.ntmps106
  go_wp2
  rw [← hB] at *
  go_loopw [7] (fun i wr => ∃ (j : Nat) (F' : Nat → Prop) (s' : St), j ≤ m ∧ i = .int .i64 ((64 * j : Nat) : Int) ∧ Hid (Wr w v p F fr mn wr F' s' ∧ s'.l.length ≤ s.l.length + j ∧ r = wrs s' (fr + at_ + j) (chs (m - j) (b.drop (64 * j))))) (fun i _ => 64 * m - (intOf i).toNat)
  case atStart => exact ⟨0, F, s, Nat.zero_le _, rfl, I0.out, Nat.le_refl _, EW.out⟩
  case round =>
    obtain ⟨j, F', s', hj, rfl, I⟩ := hrel
    clear I0 EW hwa
    by_cases hjm : j < m
    · have hx := wrs_next (s := s') (k := fr + at_) (b := b) hjm
      have hr := I.out.2.2
      rw [hx] at hr
      have HR : Hid (r = _) := hr
      clear hr hx
      have CT := CUT.out j
      obtain ⟨t, ht⟩ : ∃ t, (b.drop (64 * j)).take 64 = t := ⟨_, rfl⟩
      rw [ht] at CT HR
      clear ht
      obtain ⟨q, hq⟩ : ∃ q, 64 * j = q := ⟨_, rfl⟩
      rw [hq] at CT ⊢
      have hs := HS.out
      have g1 : (q : Int) < (X.size : Int) := by omega
      have g2 : (q : Int) + 64 ≤ (X.size : Int) := by omega
      have g3 : (q : Int) / 64 = (j : Int) := by omega
      have g4 : (0 : Int) ≤ (q : Int) := by omega
      have g5 : (q : Int) ≤ (q : Int) + 64 := by omega
      have hq2 : q ≤ 6400 := by omega
      have hj2 : j ≤ 100 := by omega
      have y1 : IntKind.i64.wrap ((q : Int) + 64) = (q : Int) + 64 := by rw [IntKind.wrap_i64]; omega
      have y4 : IntKind.i64.wrap (j : Int) = (j : Int) := by rw [IntKind.wrap_i64]; omega
      have y2 : IntKind.i64.wrap ((fr : Int) + (at_ : Int)) = (fr : Int) + (at_ : Int) := by rw [IntKind.wrap_i64]; omega
      have y3 : IntKind.i64.wrap ((fr : Int) + (at_ : Int) + (j : Int)) = (fr : Int) + (at_ : Int) + (j : Int) := by rw [IntKind.wrap_i64]; omega
      clear hs
      have W1 : Hid (Calls Tryz.prog 136 #[.pointer (some ⟨p, 0, none⟩), .int .i64 ((fr : Int) + (at_ : Int) + (j : Int)), .string (st t)] wr.drew fun e w' => e = .returned (.int .i64 (wrE s' ((fr + at_ + j : Nat) : Int) t)) ∧ ∃ F'', Wr w v p F fr mn w' F'' (wrS s' ((fr + at_ + j : Nat) : Int) t)) := by
        have := WL.out wr.drew F' s' ((fr + at_ + j : Nat) : Int) t (by have := I.out.2.1; omega) I.out.1.drew.dl
        have e : ((fr + at_ + j : Nat) : Int) = (fr : Int) + (at_ : Int) + (j : Int) := by omega
        rw [e] at this ⊢
        exact this.mono fun _ _ ⟨he, F'', k1, k2, k3⟩ => ⟨he, F'', I.out.1.drew.stp k1 k2 k3⟩
      have L1 : Hid ((wrS s' ((fr + at_ + j : Nat) : Int) t).l.length ≤ s.l.length + (j + 1)) := Nat.le_trans (wrS_len _ _ _) (by have := I.out.2.1; omega)
      have k0 := I.out.1.bk.c 0 _ rfl
      have k1 := I.out.1.bk.c 1 _ rfl
      obtain ⟨x, hx⟩ : ∃ x, wrE s' ((fr + at_ + j : Nat) : Int) t = x := ⟨_, rfl⟩
      obtain ⟨s2, hs2⟩ : ∃ s2, wrS s' ((fr + at_ + j : Nat) : Int) t = s2 := ⟨_, rfl⟩
      rw [hx, hs2] at HR W1
      rw [hs2] at L1
      clear I hx hs2 CUT
      obtain ⟨T, hT⟩ : ∃ T, st t = T := ⟨_, rfl⟩
      rw [hT] at CT W1
      have SLI : ∀ W, (Instr.slice 9 (.string X) (some (.int .i64 (q : Int))) (some (.int .i64 ((q : Int) + 64))) none).run Tryz.prog W = .ok (.string T) W := fun W => by
        rw [← CT]
        exact cut_run X q (q + 64) _ _ rfl (by omega) (by omega) (by omega) W
      clear hT CT
      by_cases h0 : x = 0
      · subst h0
        have HR2 : Hid (r = wrs s2 (fr + at_ + (j + 1)) (chs (m - (j + 1)) (b.drop (64 * (j + 1))))) := HR.out
        clear HR
        go_wp2_with fail
        go_region_with (first | (go_at_call 136; refine Calls.mono W1.out ?_; rintro e w1 ⟨rfl, F2, J2⟩))
        all_goals
          go_wp2
          go_roundw
          case rel => exact ⟨j + 1, F2, s2, by omega, by first | rfl | (congr 1; omega), J2, L1.out, HR2.out⟩
          case measure => simp [intOf]; omega
      · have HR2 : Hid (r = (x, s2)) := by
          show r = (x, s2)
          rw [HR.out, thn_no h0]
        clear HR
        go_wp2_with fail
        go_region_with (first | (go_at_call 136; refine Calls.mono W1.out ?_; rintro e w1 ⟨rfl, F2, J2⟩))
        all_goals
          have FF : Hid (Ds w v p F s2 w1) := J2.ds
          go_wp2
          go_ret
          exact ⟨by rw [HR2.out]; rfl, by rw [HR2.out]; exact FF.out⟩
    · obtain rfl : j = m := by omega
      have HR2 : Hid (r = (0, s')) := by
        show r = (0, s')
        rw [I.out.2.2, Nat.sub_self]
        rfl
      have FF : Hid (Ds w v p F s' wr) := I.out.1.ds
      have g1 : ¬ ((64 * j : Nat) : Int) < (X.size : Int) := by rw [HS.out]; omega
      obtain ⟨q, hq⟩ : ∃ q, 64 * j = q := ⟨_, rfl⟩
      rw [hq] at g1 ⊢
      clear I hq
      go_wp2
      go_ret
      exact ⟨by rw [HR2.out]; rfl, by rw [HR2.out]; exact FF.out⟩
end Go.Proofs.YtjpaodepnacimaaGreatDoor
namespace Go.Proofs.YtjpaodepnacimaaGreatDoor
open Go.RowKit Go.Proofs.Fd Go.Proofs.Dk Go.Proofs.Lg
set_option maxRecDepth 20000
theorem lsync_any (w v : World) (p : Nat) (F : Nat → Prop) (s : St) (fr mn : Nat) (hl : s.l.length ≤ 1000000) (h : Hid (Dl w v p F s)) :
    Calls Tryz.prog 96 #[plc p fr mn] v fun e w' => e = .returned (.int .i64 (syE s)) ∧ Ds w v p F (syS s) w' := by
  have I0 : Hid (Wr w v p F fr mn _ F s) := Wr.begin h.out fr mn 128
  have SY : Hid (∀ wr, Wr w v p F fr mn wr F s → Calls Tryz.prog 128 #[.pointer (some ⟨p, 0, none⟩)] wr fun e w' => e = .returned (.int .i64 (syE s)) ∧ Ds w v p F (syS s) w') := fun wr k =>
    (syncL w wr p F s hl k.dl).mono fun _ _ ⟨he, F', h1, h2, h3⟩ => ⟨he, (k.stp h1 h2 h3).ds⟩
  obtain ⟨x, hx⟩ : ∃ x, syE s = x := ⟨_, rfl⟩
  obtain ⟨t, ht⟩ : ∃ t, syS s = t := ⟨_, rfl⟩
  rw [hx, ht] at SY ⊢
  clear hx ht h hl
  go_enter Tryz.func96, Tryz.ntmps96
  go_wp2_with fail
  refine Calls.mono (SY.out _ I0.out) ?_
  rintro e w1 ⟨rfl, hd⟩
  have FF : Hid _ := hd
  clear hd
  go_wp2
  go_ret
  exact ⟨rfl, FF.out⟩
theorem nb (w : World) (o : Obj) : Below w.heap.size w (w.alloc o) := (Below.refl _ _).alloc (Nat.le_refl _) _
theorem blk_two (w : World) (o : Obj) (cs : List Value) (ty : TypeId) (hn : cs ≠ []) : Blk ((w.alloc o).alloc (.cells cs.toArray ty)) (w.heap.size + 1) cs := by
  have := Blk.new (w.alloc o) cs ty hn
  rw [show (w.alloc o).heap.size = w.heap.size + 1 by simp] at this
  exact this
theorem lother_any (w : World) (p fr mn : Nat) (h1 : fr ≤ mn) (h2 : mn ≤ 4000) : Calls Tryz.prog 64 #[plc p fr mn] w fun e w' => e = .returned (plc p (mn - fr) mn) ∧ Below w.heap.size w w' := by
  have y1 : IntKind.i64.wrap ((mn : Int) - (fr : Int)) = ((mn - fr : Nat) : Int) := by rw [IntKind.wrap_i64]; omega
  have e1 : (mn : Int) - (fr : Int) = ((mn - fr : Nat) : Int) := by omega
  obtain ⟨d, hd⟩ : ∃ d, mn - fr = d := ⟨_, rfl⟩
  rw [hd] at y1 e1 ⊢
  have J1 : Hid (_ ∧ _) := And.intro (blk_two w (.cells #[.pointer (some ⟨p, 0, none⟩), .int .i64 (fr : Int), .int .i64 (mn : Int)] 128) [.pointer (some ⟨p, 0, none⟩), .int .i64 (d : Int), .int .i64 (mn : Int)] 128 (by simp)) (chain (nb w (.cells #[.pointer (some ⟨p, 0, none⟩), .int .i64 (fr : Int), .int .i64 (mn : Int)] 128)) (nb _ (.cells #[.pointer (some ⟨p, 0, none⟩), .int .i64 (d : Int), .int .i64 (mn : Int)] 128)))
  have hf : (fr : Int) ≤ (mn : Int) := by omega
  have hm : (mn : Int) ≤ 4000 := by omega
  clear h1 h2 hd
  unfold plc
  go_enter Tryz.func64, Tryz.ntmps64
  go_wp2
  refine bodyPost_ret (v := plc p d mn) ?_ rfl ⟨rfl, J1.out.2⟩
  exact res_c1 Tryz.results64 _ _ (w.heap.size + 1) _ (by kernel_rfl) (run_loadVar_mid _ (w.heap.size + 1) 0 128 [.pointer (some ⟨p, 0, none⟩), .int .i64 (d : Int), .int .i64 (mn : Int)] _ J1.out.1.r Tryz.underlying128 rfl (by kernel_rfl))
theorem rch_d {s : St} (h : s.down = true) (k : Int) : rch s k = 150 := if_pos h
theorem rch_in {s : St} (h : s.down = false) {k : Nat} (hk : k < s.n) : rch s (k : Int) = 0 := by
  unfold rch
  rw [if_neg (by rw [h]; simp), if_neg (by omega)]
theorem rdV_in {s : St} (h : s.down = false) {k : Nat} (hk : k < s.n) : rdV s (k : Int) = s.sh k := by
  unfold rdV
  rw [if_pos (rch_in h hk), Int.toNat_natCast]
def rdA (s : St) (fr mn : Nat) : Value := if s.down = true then .tuple #[sv [], .int .i64 150] else .tuple #[sv (hb s fr mn), .int .i64 0]
theorem builder_new (w : World) : Lib.IsBuilder 187 5 w.heap.size w.heap.size (Lib.byteCells []) (w.alloc (.cells #[.pointer none, .slice none 0 0] 187)) := Lib.fresh_isBuilder _ _ w
theorem builder_write (B : Nat) (l m : Bs) (w : World) (h : Lib.IsBuilder 187 5 B B (Lib.byteCells l) w) (hl : l.length + m.length ≤ 1000000) (hB : B ≤ w.heap.size) :
    Calls Tryz.prog 133 #[.pointer (some ⟨B, 0, none⟩), .string (st m)] w fun e w' => e = .returned (.tuple #[.int .i64 (m.length : Int), .nilIface]) ∧ Lib.IsBuilder 187 5 B B (Lib.byteCells (l ++ m)) w' ∧ Below B w w' := by
  refine (Any.Builder_WriteString (ρ := repAt) { repLies with } repMore B B (Lib.byteCells l) (st m) w h (by rw [Lib.byteCells_length, st_size]; omega) hB).mono fun e w' ⟨he, h1, h2⟩ => ⟨?_, .inr ?_, h2⟩
  · rw [he, st_size]
  · rw [Lib.byteCells_append]
    exact h1
theorem builder_string (B : Nat) (l : Bs) (w : World) (h : Lib.IsBuilder 187 5 B B (Lib.byteCells l) w) (hB : B ≤ w.heap.size) :
    Calls Tryz.prog 134 #[.pointer (some ⟨B, 0, none⟩)] w fun e w' => e = .returned (.string (st l)) ∧ Below B w w' := Any.Builder_String_any (ρ := repAt) { repLies with } repMore B B l w h hB
end Go.Proofs.YtjpaodepnacimaaGreatDoor
namespace Go.Proofs.YtjpaodepnacimaaGreatDoor
open Go.RowKit Go.Proofs.Fd Go.Proofs.Dk Go.Proofs.Lg
set_option maxRecDepth 20000
set_option maxHeartbeats 2000000 in
theorem lread_any (w v : World) (p : Nat) (F : Nat → Prop) (s : St) (fr mn : Nat) (h1 : 1 ≤ mn) (h2 : fr + mn ≤ s.n) (h : Hid (Dl w v p F s)) :
    Calls Tryz.prog 104 #[plc p fr mn] v fun e w' => e = .returned (rdA s fr mn) ∧ Below v.heap.size v w' := by
  have OK := h.out.at_.1
  have hn := OK.n2
  have H64 : Hid (∀ k, (hb s fr k).length = 64 * k) := fun k => hb_len OK fr k
  have P64 : Hid (∀ k, (s.sh k).length = 64) := OK.sh64
  have RD : Hid (∀ (W : World) (k : Int), Below v.heap.size v W → Calls Tryz.prog 12 #[.pointer (some ⟨p, 0, none⟩), .int .i64 k] W fun e w' => e = .returned (.tuple #[.string (st (rdV s k)), .int .i64 (rch s k)]) ∧ w' = W) := fun W k hb => readL w W p F s k (h.out.later hb)
  have BK : Hid (_ ∧ _) := And.intro (Blk.new v [.pointer (some ⟨p, 0, none⟩), .int .i64 (fr : Int), .int .i64 (mn : Int)] 128 (by simp)) (nb v (.cells #[.pointer (some ⟨p, 0, none⟩), .int .i64 (fr : Int), .int .i64 (mn : Int)] 128))
  obtain ⟨va, hva⟩ : ∃ va, v.alloc (.cells #[.pointer (some ⟨p, 0, none⟩), .int .i64 (fr : Int), .int .i64 (mn : Int)] 128) = va := ⟨_, rfl⟩
  have hsz : va.heap.size = v.heap.size + 1 := by rw [← hva]; simp
  have BN : Hid (_ ∧ _) := And.intro (builder_new va) (nb va (.cells #[.pointer none, .slice none 0 0] 187))
  have WS : Hid (∀ (l m : Bs) (W : World), _) := builder_write (v.heap.size + 1)
  have SS : Hid (∀ (l : Bs) (W : World), _) := builder_string (v.heap.size + 1)
  obtain ⟨vb, hvb⟩ : ∃ vb, va.alloc (.cells #[.pointer none, .slice none 0 0] 187) = vb := ⟨_, rfl⟩
  have HSZ : Hid (vb.heap.size = v.heap.size + 2) := by
    show vb.heap.size = _
    rw [← hvb]
    simp [hsz]
  have BK' := BK.out
  have BN' := BN.out
  simp only [List.toArray] at BK'
  rw [hva] at BK'
  rw [hvb, hsz] at BN'
  have I0 : Hid (Blk vb v.heap.size [.pointer (some ⟨p, 0, none⟩), .int .i64 (fr : Int), .int .i64 (mn : Int)] ∧ Below v.heap.size v vb ∧ Lib.IsBuilder 187 5 (v.heap.size + 1) (v.heap.size + 1) (Lib.byteCells []) vb) := ⟨BK'.1.below BN'.2 (by omega), BK'.2.trans (BN'.2.mono (by omega)), BN'.1⟩
  clear BK' BN' BK BN OK
  unfold plc
  have g0 : (0 : Int) < (mn : Int) := by omega
  have gm : mn ≤ 1024 := by omega
  have gf : fr ≤ 1024 := by omega
  by_cases hd : s.down = true
  · have HR : Hid (rdA s fr mn = .tuple #[.string ⟨#[]⟩, .int .i64 150]) := if_pos hd
    have R1 : Hid (Calls Tryz.prog 12 #[.pointer (some ⟨p, 0, none⟩), .int .i64 (fr : Int)] vb fun e w' => e = .returned (.tuple #[.string (st (rdV s (fr : Int))), .int .i64 150]) ∧ w' = vb) := by
      have := RD.out vb (fr : Int) I0.out.2.1
      rw [rch_d hd] at this
      exact this
    obtain ⟨X, hX⟩ : ∃ X, st (rdV s (fr : Int)) = X := ⟨_, rfl⟩
    rw [hX] at R1
    have k0 := I0.out.1.c 0 _ rfl
    have k1 := I0.out.1.c 1 _ rfl
    have k2 := I0.out.1.c 2 _ rfl
    clear hX RD WS SS H64 P64
    go_enter Tryz.func104, Tryz.ntmps104
    go_wp2
    go_loopw [10] (fun i wr => i = .int .i64 0 ∧ wr = vb) (fun _ _ => 0)
    case atStart => exact ⟨rfl, rfl⟩
    case round =>
      obtain ⟨rfl, rfl⟩ := hrel
      go_wp2_with fail
      refine Calls.mono R1.out ?_
      rintro e w1 ⟨rfl, rfl⟩
      have FF : Hid (Below v.heap.size v w1) := I0.out.2.1
      clear I0
      go_wp2
      go_ret2
      exact ⟨by rw [HR.out]; rfl, FF.out⟩
  · have hd' : s.down = false := by simpa using hd
    have HR : Hid (rdA s fr mn = .tuple #[.string (st (hb s fr mn)), .int .i64 0]) := if_neg hd
    have R1 : Hid (∀ (W : World) (k : Nat), k < mn → Below v.heap.size v W → Calls Tryz.prog 12 #[.pointer (some ⟨p, 0, none⟩), .int .i64 ((fr : Int) + (k : Int))] W fun e w' => e = .returned (.tuple #[.string (st (s.sh (fr + k))), .int .i64 0]) ∧ w' = W) := fun W k hk hb => by
      have := RD.out W ((fr + k : Nat) : Int) hb
      rw [rch_in hd' (by omega), rdV_in hd' (by omega), show ((fr + k : Nat) : Int) = (fr : Int) + (k : Int) by omega] at this
      exact this
    have k2 := I0.out.1.c 2 _ rfl
    clear RD hd hd'
    go_enter Tryz.func104, Tryz.ntmps104
    go_wp2
    clear k2 hva hvb hsz
    go_loopw [10] (fun i wr => ∃ k : Nat, k ≤ mn ∧ i = .int .i64 (k : Int) ∧ Hid (Blk wr v.heap.size [.pointer (some ⟨p, 0, none⟩), .int .i64 (fr : Int), .int .i64 (mn : Int)] ∧ Below v.heap.size v wr ∧ Lib.IsBuilder 187 5 (v.heap.size + 1) (v.heap.size + 1) (Lib.byteCells (hb s fr k)) wr ∧ v.heap.size + 2 ≤ wr.heap.size)) (fun i _ => mn - (intOf i).toNat)
    case atStart => exact ⟨0, Nat.zero_le _, rfl, I0.out.1, I0.out.2.1, I0.out.2.2, by rw [HSZ.out]; exact Nat.le_refl _⟩
    case round =>
      obtain ⟨k, hk, rfl, I⟩ := hrel
      clear I0 HSZ
      by_cases hlt : k < mn
      · have g1 : (k : Int) < (mn : Int) := by omega
        have k0 := I.out.1.c 0 _ rfl
        have k1 := I.out.1.c 1 _ rfl
        have y1 : IntKind.i64.wrap ((fr : Int) + (k : Int)) = (fr : Int) + (k : Int) := by rw [IntKind.wrap_i64]; omega
        have HE : Hid (hb s fr (k + 1) = hb s fr k ++ s.sh (fr + k)) := hb_succ s fr k
        have R2 : Hid _ := R1.out wr k hlt I.out.2.1
        have W2 : Hid _ := WS.out (hb s fr k) (s.sh (fr + k)) wr I.out.2.2.1 (by rw [H64.out, P64.out]; omega) (by have := I.out.2.2.2; omega)
        obtain ⟨X, hX⟩ : ∃ X, st (s.sh (fr + k)) = X := ⟨_, rfl⟩
        rw [hX] at R2 W2
        clear hX
        go_wp2_with fail
        refine Calls.mono R2.out ?_
        rintro e w1 ⟨rfl, rfl⟩
        go_wp2_with fail
        refine Calls.mono W2.out ?_
        rintro e w2 ⟨rfl, b1, b2⟩
        have J : Hid (Blk w2 v.heap.size [.pointer (some ⟨p, 0, none⟩), .int .i64 (fr : Int), .int .i64 (mn : Int)] ∧ Below v.heap.size v w2 ∧ Lib.IsBuilder 187 5 (v.heap.size + 1) (v.heap.size + 1) (Lib.byteCells (hb s fr (k + 1))) w2 ∧ v.heap.size + 2 ≤ w2.heap.size) := ⟨I.out.1.below b2 (by omega), I.out.2.1.trans (b2.mono (by omega)), by rw [HE.out]; exact b1, by have := b2.size; have := I.out.2.2.2; omega⟩
        clear b1 b2 I
        go_wp2
        go_roundw
        case rel => exact ⟨k + 1, by omega, rfl, J.out⟩
        case measure => simp [intOf]; omega
      · obtain rfl : k = mn := by omega
        have S2 : Hid _ := SS.out (hb s fr k) wr I.out.2.2.1 (by have := I.out.2.2.2; omega)
        go_wp2_with fail
        refine Calls.mono S2.out ?_
        rintro e w2 ⟨rfl, b2⟩
        have FF : Hid (Below v.heap.size v w2) := I.out.2.1.trans (b2.mono (by omega))
        clear b2
        go_wp2
        go_ret2
        exact ⟨by rw [HR.out]; rfl, FF.out⟩
end Go.Proofs.YtjpaodepnacimaaGreatDoor
namespace Go.Proofs.YtjpaodepnacimaaGreatDoor
open Go.RowKit Go.Proofs.Fd Go.Proofs.Dk Go.Proofs.Lg
set_option maxRecDepth 20000
def scs (l : List Bs) : List Value := l.map fun t => sv t
theorem scs_app (l m : List Bs) : scs (l ++ m) = scs l ++ scs m := List.map_append ..
theorem scs_one (l : List Bs) : ∀ u ∈ scs l, u.oneCell' = true := fun u h => by
  obtain ⟨x, -, rfl⟩ := List.mem_map.1 h
  rfl
abbrev OwnsS (w : World) (v : Value) (l : List Bs) : Prop := w.ownsRow 0 9 1 v l.length (scs l)
theorem infoS : (Tryz.prog.info? 9).map (fun i => (i.zero, i.size, i.bytes)) = some (some (.string ⟨#[]⟩), 1, 16) := by kernel_rfl
theorem owns_nilS (w : World) : OwnsS w (.slice none 0 0) [] := World.ownsRow_nil _ _ _ _
theorem owns_sliceS {w : World} {v : Value} {l : List Bs} (h : OwnsS w v l) : ∃ a n c, v = .slice a n c := by
  rcases h.2 with ⟨rfl, -⟩ | ⟨g, cap, cur, rfl, -⟩
  · exact ⟨_, _, _, rfl⟩
  · exact ⟨_, _, _, rfl⟩
theorem app_str (w : World) (ty : TypeId) (v : Value) (l : List Bs) (h : OwnsS w v l) (hl : l.length ≤ 1000000) (t : Bs) (b : Nat) (c0 : w.cell? ⟨b, 0, none⟩ = some (sv t)) :
    ∃ v' w', (Builtin.append_ #[37, 37] ty #[v, .slice (some ⟨b, 0, none⟩) 1 1]).run Tryz.prog w = .ok v' w' ∧ OwnsS w' v' (l ++ [t]) ∧ w.grownBy w' v.ownBlock ∧ (v'.ownBlock = v.ownBlock ∨ v'.ownBlock = some w.heap.size) := by
  obtain ⟨i0, hi, hz0, hz1, hz2⟩ := info_parts infoS
  obtain ⟨v', w', r1, r2, r3, -, r5⟩ := run_append_own_at (P := Tryz.prog) w 0 37 ty 9 i0 _ 1 16 Tryz.underlying37 hi hz0 hz1 hz2 rfl (by decide) v l.length (scs l) h ⟨b, 0, none⟩ 1 1 [sv t] rfl (fun j u hu => by
      have q : Addr.add ⟨b, 0, none⟩ j = ⟨b, j, none⟩ := by simp [Addr.add]; intro h; exact h.symm
      rw [q]
      match j, hu with
      | 0, hu => simp at hu; subst hu; exact c0
      | j + 1, hu => simp at hu) (scs_one [t]) (by unfold maxLen; omega) (by omega) (Nat.zero_le _)
  refine ⟨v', w', r1, ?_, r3, r5⟩
  unfold OwnsS
  rw [scs_app, List.length_append]
  exact r2
abbrev hc (p fr mn g : Nat) (v : Value) (tk : Nat) (m : Bs) (more : List Value) : List Value := [.pointer (some ⟨p, 0, none⟩), .int .i64 (fr : Int), .int .i64 (mn : Int), .int .i64 (g : Int), v, .int .i64 (tk : Int), sv m] ++ more
structure Hf (w : World) (q p fr mn g : Nat) (v : Value) (ts : List Bs) (tk : Nat) (m : Bs) (more : List Value) : Prop where
  bk : Blk w q (hc p fr mn g v tk m more)
  row : OwnsS w v ts
  qv : v.ownBlock ≠ some q
def HFt (q : Nat) (v : Value) (g : Nat) : Prop := g = q ∨ v.ownBlock = some g
section
variable {w : World} {q p fr mn g : Nat} {v : Value} {ts : List Bs} {tk : Nat} {m : Bs} {more : List Value}
theorem Hf.lt (h : Hf w q p fr mn g v ts tk m more) {x : Nat} (hx : HFt q v x) : x < w.heap.size := by
  rcases hx with rfl | e
  · exact h.bk.lt
  · exact (h.row.lt x e).2
theorem Hf.same (h : Hf w q p fr mn g v ts tk m more) {w' : World} (hs : ∀ x, HFt q v x → w'.heap[x]? = w.heap[x]?) : Hf w' q p fr mn g v ts tk m more :=
  ⟨h.bk.same (hs q (.inl rfl)), ownsRow_same h.row (fun x e => hs x (.inr e)), h.qv⟩
theorem Hf.later (h : Hf w q p fr mn g v ts tk m more) {w' : World} (hb : Below w.heap.size w w') : Hf w' q p fr mn g v ts tk m more := h.same fun x hx => hb.block x (h.lt hx)
theorem Hf.bf (h : Hf w q p fr mn g v ts tk m more) {F : Nat → Prop} {w' : World} (hb : Bf F w w') (hF : ∀ x, HFt q v x → ¬ F x) : Hf w' q p fr mn g v ts tk m more := h.same fun x hx => hb.block x (h.lt hx) (hF x hx)
theorem Hf.set (h : Hf w q p fr mn g v ts tk m more) (i : Nat) (u : Value) (hi : i < (hc p fr mn g v tk m more).length) : Blk (w.setCell ⟨q, i, none⟩ u) q ((hc p fr mn g v tk m more).set i u) ∧ OwnsS (w.setCell ⟨q, i, none⟩ u) v ts :=
  ⟨h.bk.set i hi u, ownsRow_same h.row (fun x e => Below.heap_setCell w ⟨q, i, none⟩ u x (fun c => h.qv (by rw [e, c])))⟩
theorem Hf.setTk (h : Hf w q p fr mn g v ts tk m more) (k : Nat) : Hf (w.setCell ⟨q, 5, none⟩ (.int .i64 (k : Int))) q p fr mn g v ts k m more := by
  have := h.set 5 (.int .i64 (k : Int)) (by simp)
  exact ⟨this.1, this.2, h.qv⟩
theorem Hf.setMk (h : Hf w q p fr mn g v ts tk m more) (k : Bs) : Hf (w.setCell ⟨q, 6, none⟩ (sv k)) q p fr mn g v ts tk k more := by
  have := h.set 6 (sv k) (by simp)
  exact ⟨this.1, this.2, h.qv⟩
end
theorem bf_set {F : Nat → Prop} {w w' : World} (h : Bf F w w') {q i : Nat} {u : Value} (hq : F q) : Bf F w (w'.setCell ⟨q, i, none⟩ u) := h.trans (Nx.refl _ _) (Bf.set F w' q i u hq)
set_option maxHeartbeats 1000000 in
theorem lgoOn_any (q p fr mn g : Nat) (v : Value) (ts : List Bs) (tk : Nat) (m : Bs) (more : List Value) (w : World) (hk : Hid (Kh w)) (h : Hid (Hf w q p fr mn g v ts tk m more)) :
    Calls Tryz.prog 130 #[.pointer (some ⟨q, 0, none⟩)] w fun e w' => e = .returned (.tuple #[]) ∧ Hf w' q p fr mn g v ts 1 (hm g) more ∧ Bf (fun x => x = q) w w' := by
  have HM : Hid _ := lhm_any g w hk
  have k3 := h.out.bk.c 3 _ rfl
  have FI : Hid (∀ w1, Below w.heap.size w w1 → Hf ((w1.setCell ⟨q, 5, none⟩ (.int .i64 ((1 : Nat) : Int))).setCell ⟨q, 6, none⟩ (sv (hm g))) q p fr mn g v ts 1 (hm g) more ∧ Bf (fun x => x = q) w ((w1.setCell ⟨q, 5, none⟩ (.int .i64 ((1 : Nat) : Int))).setCell ⟨q, 6, none⟩ (sv (hm g)))) := fun w1 hb =>
    ⟨((h.out.later hb).setTk 1).setMk (hm g), bf_set (F := fun x => x = q) (bf_set (F := fun x => x = q) (Bf.of hb) rfl) rfl⟩
  have CS : Hid (∀ w1, Below w.heap.size w w1 → w1.cell? ⟨q, 5, none⟩ = some (.int .i64 (tk : Int)) ∧ w1.cell? ⟨q, 6, none⟩ = some (sv m) ∧ ∀ o, w1.frozen? ⟨q, o, none⟩ = false) := fun w1 hb => ⟨(h.out.later hb).bk.c 5 _ rfl, (h.out.later hb).bk.c 6 _ rfl, (h.out.later hb).bk.f⟩
  unfold sv at *
  obtain ⟨M, hM⟩ : ∃ M, st (hm g) = M := ⟨_, rfl⟩
  rw [hM] at HM FI
  clear hM h
  go_enter Tryz.func130, Tryz.ntmps130
  go_wp2_with fail
  refine Calls.mono HM.out ?_
  rintro e w1 ⟨rfl, hb⟩
  obtain ⟨k5, k6, kf⟩ := CS.out w1 hb
  have FF : Hid _ := FI.out w1 hb
  clear hb FI CS k3
  go_wp2
  go_end0
  exact ⟨rfl, FF.out⟩
end Go.Proofs.YtjpaodepnacimaaGreatDoor
