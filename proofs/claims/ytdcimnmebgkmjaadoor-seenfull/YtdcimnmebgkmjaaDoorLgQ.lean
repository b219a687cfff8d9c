/- Where a half lies: read, written, synced. -/
import Derived.Test.YtdcimnmebgkmjaaDoorLgS
namespace Go.Proofs.YtdcimnmebgkmjaaDoor
open Go.RowKit Go.Proofs.Fd Go.Proofs.Dk Go.Proofs.Lg
set_option maxRecDepth 20000

/-- A place as a value. -/
abbrev plc (p fr mn : Nat) : Value := .agg #[.pointer (some ⟨p, 0, none⟩), .int .i64 (fr : Int), .int .i64 (mn : Int)]
/-- A piece of a text, as an operation. -/
theorem cut_run (X : ByteArray) (i j : Nat) (x y : Int) (hx : x = (i : Int)) (hy : y = (j : Int)) (h1 : i ≤ j) (h2 : j ≤ X.size) (w : World) : (Instr.slice 9 (.string X) (some (.int .i64 x)) (some (.int .i64 y)) none).run Tryd.prog w = .ok (.string (X.extract i j)) w := by
  subst hx hy
  have h3 : (0 : Int) ≤ (j : Int) := by omega
  have h4 : (0 : Int) ≤ (i : Int) := by omega
  have h5 : (i : Int) ≤ (j : Int) := by omega
  have h6 : (j : Int) ≤ (X.size : Int) := by omega
  simp [Instr.slice, Instr.sliceBounds, Instr.sliceBound, asIntOf, run_underlying Tryd.underlying9, h1, h2]
/-- What a call leaves of a disk. -/
def Ds (w wr : World) (p : Nat) (F : Nat → Prop) (s : St) (w' : World) : Prop := ∃ F', Dl w w' p F' s ∧ Nx wr F F' ∧ Bf F wr w'
theorem wrs_next {s : St} {k j m : Nat} {b : Bs} (hj : j < m) : wrs s (k + j) (chs (m - j) (b.drop (64 * j))) = thn (wrE s ((k + j : Nat) : Int) ((b.drop (64 * j)).take 64), wrS s ((k + j : Nat) : Int) ((b.drop (64 * j)).take 64)) fun s' => wrs s' (k + (j + 1)) (chs (m - (j + 1)) (b.drop (64 * (j + 1)))) := by
  obtain ⟨d, hd⟩ : ∃ d, m - j = d + 1 := ⟨m - j - 1, by omega⟩
  rw [hd, chs, wrs, show m - (j + 1) = d by omega, List.drop_drop, show 64 * j + 64 = 64 * (j + 1) by omega]
  rfl
theorem wrS_len (s : St) (k : Int) (t : Bs) : (wrS s k t).l.length ≤ s.l.length + 1 := by
  unfold wrS
  split
  · omega
  · split
    · omega
    · split
      · show s.l.length ≤ _
        omega
      · show (s.l ++ [_]).length ≤ _
        rw [List.length_append]
        exact Nat.le_refl _
theorem Nx.apart {w : World} {F F' : Nat → Prop} (h : Nx w F F') {B : Nat} (hF : ¬ F B) (hl : B < w.heap.size) : ¬ F' B := fun c => by
  rcases h B c with e | e
  · exact hF e
  · omega
/-- What stands while a place is written. -/
structure Wr (w wr0 : World) (p : Nat) (F : Nat → Prop) (fr mn : Nat) (wr : World) (F' : Nat → Prop) (s : St) : Prop where
  dl : Dl w wr p F' s
  nx : Nx wr0 F F'
  bf : Bf F wr0 wr
  bk : Blk wr wr0.heap.size [.pointer (some ⟨p, 0, none⟩), .int .i64 (fr : Int), .int .i64 (mn : Int)]
  ap : ¬ F' wr0.heap.size
theorem Wr.stp {w wr0 wr wr' : World} {p : Nat} {F F' F'' : Nat → Prop} {fr mn : Nat} {s t : St} (h : Wr w wr0 p F fr mn wr F' s) (k : Dl w wr' p F'' t) (hx : Nx wr F' F'') (hb : Bf F' wr wr') : Wr w wr0 p F fr mn wr' F'' t :=
  ⟨k, h.nx.trans hx h.bf.size, h.bf.trans h.nx hb, h.bk.bf hb h.ap, hx.apart h.ap h.bk.lt⟩
theorem Wr.begin {w wr : World} {p : Nat} {F : Nat → Prop} {s : St} (h : Dl w wr p F s) (fr mn : Nat) (ty : TypeId) : Wr w wr p F fr mn (wr.alloc (.cells #[.pointer (some ⟨p, 0, none⟩), .int .i64 (fr : Int), .int .i64 (mn : Int)] ty)) F s :=
  ⟨h.later ((Below.refl _ _).alloc (Nat.le_refl _) _), Nx.refl _ _, Bf.of ((Below.refl _ _).alloc (Nat.le_refl _) _), Blk.new wr _ ty (by simp), fun c => Nat.lt_irrefl _ (h.at_.lt c)⟩
theorem Wr.ds {w wr0 wr : World} {p : Nat} {F F' : Nat → Prop} {fr mn : Nat} {s : St} (h : Wr w wr0 p F fr mn wr F' s) : Ds w wr0 p F s wr := ⟨F', h.dl, h.nx, h.bf⟩
theorem Wr.drew {w wr0 wr : World} {p : Nat} {F F' : Nat → Prop} {fr mn : Nat} {s : St} (h : Wr w wr0 p F fr mn wr F' s) : Wr w wr0 p F fr mn wr.drew F' s :=
  ⟨h.dl.later (Below.refl _ _).drew, h.nx, h.bf.later (Below.refl _ _).drew, h.bk.drew, h.ap⟩
set_option maxHeartbeats 2000000 in
theorem lwrite_any (w v : World) (p : Nat) (F : Nat → Prop) (s : St) (fr at_ mn : Nat) (b : Bs) (m : Nat) (hb : b.length = 64 * m) (hm : m ≤ 100) (hz : fr + at_ ≤ 4000) (hl : s.l.length + m ≤ 1000000) (h : Hid (Dl w v p F s)) :
    Calls Tryd.prog 52 #[plc p fr mn, .int .i64 (at_ : Int), sv b] v fun e w' => e = .returned (.int .i64 (wrb s (fr + at_) b).1) ∧ Ds w v p F (wrb s (fr + at_) b).2 w' := by
  have hs : (st b).size = 64 * m := by rw [st_size, hb]
  have I0 : Hid (Wr w v p F fr mn _ F s) := Wr.begin h.out fr mn 55
  have CUT : Hid (∀ j, (st b).extract (64 * j) (64 * j + 64) = st ((b.drop (64 * j)).take 64)) := fun j => by
    rw [st_cut, List.drop_take, show 64 * j + 64 - 64 * j = 64 by omega]
  have EW : Hid (wrb s (fr + at_) b = wrs s (fr + at_) (chs m b)) := by
    show wrb s (fr + at_) b = _
    rw [wrb, hb, show 64 * m / 64 = m by omega]
  have WL : Hid (∀ (wr : World) (F : Nat → Prop) (s : St) (k : Int) (t : Bs), s.l.length ≤ 1000000 → Dl w wr p F s → Calls Tryd.prog 73 #[.pointer (some ⟨p, 0, none⟩), .int .i64 k, .string (st t)] wr fun e w' => e = .returned (.int .i64 (wrE s k t)) ∧ ∃ F', Dl w w' p F' (wrS s k t) ∧ Nx wr F F' ∧ Bf F wr w') := fun wr F s k t hl h => writeL w wr p F s k (st t) hl h
  obtain ⟨r, hr⟩ : ∃ r, wrb s (fr + at_) b = r := ⟨_, rfl⟩
  rw [hr] at EW ⊢
  obtain ⟨X, hX⟩ : ∃ X, st b = X := ⟨_, rfl⟩
  unfold sv plc
  rw [hX] at hs CUT ⊢
  have HS : Hid (X.size = 64 * m) := hs
  clear hX hr hb h hs
  obtain ⟨wa, hwa⟩ : ∃ wa, v.alloc (.cells #[.pointer (some ⟨p, 0, none⟩), .int .i64 (fr : Int), .int .i64 (mn : Int)] 55) = wa := ⟨_, rfl⟩
  obtain ⟨B, hB⟩ : ∃ B, v.heap.size = B := ⟨_, rfl⟩
  rw [hwa] at I0
  go_enter Tryd.func52, Tryd.ntmps52
  go_wp2
  rw [← hB] at *
  go_loopw [7] (fun i wr => ∃ (j : Nat) (F' : Nat → Prop) (s' : St), j ≤ m ∧ i = .int .i64 ((64 * j : Nat) : Int) ∧ Hid (Wr w v p F fr mn wr F' s' ∧ s'.l.length ≤ s.l.length + j ∧ r = wrs s' (fr + at_ + j) (chs (m - j) (b.drop (64 * j))))) (fun i _ => 64 * m - (intOf i).toNat)
  case atStart => exact ⟨0, F, s, Nat.zero_le _, rfl, I0.out, Nat.le_refl _, EW.out⟩
  case round =>
    obtain ⟨j, F', s', hj, rfl, I⟩ := hrel
    clear I0 EW hwa
    by_cases hjm : j < m
    · have hx := wrs_next (s := s') (k := fr + at_) (b := b) hjm
      have hr := I.out.2.2
      rw [hx] at hr
      have HR : Hid (r = _) := hr
      clear hr hx
      have CT := CUT.out j
      obtain ⟨t, ht⟩ : ∃ t, (b.drop (64 * j)).take 64 = t := ⟨_, rfl⟩
      rw [ht] at CT HR
      clear ht
      obtain ⟨q, hq⟩ : ∃ q, 64 * j = q := ⟨_, rfl⟩
      rw [hq] at CT ⊢
      have hs := HS.out
      have g1 : (q : Int) < (X.size : Int) := by omega
      have g2 : (q : Int) + 64 ≤ (X.size : Int) := by omega
      have g3 : (q : Int) / 64 = (j : Int) := by omega
      have g4 : (0 : Int) ≤ (q : Int) := by omega
      have g5 : (q : Int) ≤ (q : Int) + 64 := by omega
      have hq2 : q ≤ 6400 := by omega
      have hj2 : j ≤ 100 := by omega
      have y1 : IntKind.i64.wrap ((q : Int) + 64) = (q : Int) + 64 := by rw [IntKind.wrap_i64]; omega
      have y4 : IntKind.i64.wrap (j : Int) = (j : Int) := by rw [IntKind.wrap_i64]; omega
      have y2 : IntKind.i64.wrap ((fr : Int) + (at_ : Int)) = (fr : Int) + (at_ : Int) := by rw [IntKind.wrap_i64]; omega
      have y3 : IntKind.i64.wrap ((fr : Int) + (at_ : Int) + (j : Int)) = (fr : Int) + (at_ : Int) + (j : Int) := by rw [IntKind.wrap_i64]; omega
      clear hs
      have W1 : Hid (Calls Tryd.prog 73 #[.pointer (some ⟨p, 0, none⟩), .int .i64 ((fr : Int) + (at_ : Int) + (j : Int)), .string (st t)] wr.drew fun e w' => e = .returned (.int .i64 (wrE s' ((fr + at_ + j : Nat) : Int) t)) ∧ ∃ F'', Wr w v p F fr mn w' F'' (wrS s' ((fr + at_ + j : Nat) : Int) t)) := by
        have := WL.out wr.drew F' s' ((fr + at_ + j : Nat) : Int) t (by have := I.out.2.1; omega) I.out.1.drew.dl
        have e : ((fr + at_ + j : Nat) : Int) = (fr : Int) + (at_ : Int) + (j : Int) := by omega
        rw [e] at this ⊢
        exact this.mono fun _ _ ⟨he, F'', k1, k2, k3⟩ => ⟨he, F'', I.out.1.drew.stp k1 k2 k3⟩
      have L1 : Hid ((wrS s' ((fr + at_ + j : Nat) : Int) t).l.length ≤ s.l.length + (j + 1)) := Nat.le_trans (wrS_len _ _ _) (by have := I.out.2.1; omega)
      have k0 := I.out.1.bk.c 0 _ rfl
      have k1 := I.out.1.bk.c 1 _ rfl
      obtain ⟨x, hx⟩ : ∃ x, wrE s' ((fr + at_ + j : Nat) : Int) t = x := ⟨_, rfl⟩
      obtain ⟨s2, hs2⟩ : ∃ s2, wrS s' ((fr + at_ + j : Nat) : Int) t = s2 := ⟨_, rfl⟩
      rw [hx, hs2] at HR W1
      rw [hs2] at L1
      clear I hx hs2 CUT
      obtain ⟨T, hT⟩ : ∃ T, st t = T := ⟨_, rfl⟩
      rw [hT] at CT W1
      have SLI : ∀ W, (Instr.slice 9 (.string X) (some (.int .i64 (q : Int))) (some (.int .i64 ((q : Int) + 64))) none).run Tryd.prog W = .ok (.string T) W := fun W => by
        rw [← CT]
        exact cut_run X q (q + 64) _ _ rfl (by omega) (by omega) (by omega) W
      clear hT CT
      by_cases h0 : x = 0
      · subst h0
        have HR2 : Hid (r = wrs s2 (fr + at_ + (j + 1)) (chs (m - (j + 1)) (b.drop (64 * (j + 1))))) := HR.out
        clear HR
        go_wp2_with fail
        go_region_with (first | (go_at_call 73; refine Calls.mono W1.out ?_; rintro e w1 ⟨rfl, F2, J2⟩))
        all_goals
          go_wp2
          go_roundw
          case rel => exact ⟨j + 1, F2, s2, by omega, by first | rfl | (congr 1; omega), J2, L1.out, HR2.out⟩
          case measure => simp [intOf]; omega
      · have HR2 : Hid (r = (x, s2)) := by
          show r = (x, s2)
          rw [HR.out, thn_no h0]
        clear HR
        go_wp2_with fail
        go_region_with (first | (go_at_call 73; refine Calls.mono W1.out ?_; rintro e w1 ⟨rfl, F2, J2⟩))
        all_goals
          have FF : Hid (Ds w v p F s2 w1) := J2.ds
          go_wp2
          go_ret
          exact ⟨by rw [HR2.out]; rfl, by rw [HR2.out]; exact FF.out⟩
    · obtain rfl : j = m := by omega
      have HR2 : Hid (r = (0, s')) := by
        show r = (0, s')
        rw [I.out.2.2, Nat.sub_self]
        rfl
      have FF : Hid (Ds w v p F s' wr) := I.out.1.ds
      have g1 : ¬ ((64 * j : Nat) : Int) < (X.size : Int) := by rw [HS.out]; omega
      obtain ⟨q, hq⟩ : ∃ q, 64 * j = q := ⟨_, rfl⟩
      rw [hq] at g1 ⊢
      clear I hq
      go_wp2
      go_ret
      exact ⟨by rw [HR2.out]; rfl, by rw [HR2.out]; exact FF.out⟩
end Go.Proofs.YtdcimnmebgkmjaaDoor
