/- Parts: LrA, LrD. -/
import Derived.Test.YtdcimnmebgkmjaaGreatDoorZlG16
import Derived.Test.YtdcimnmebgkmjaaGreatDoorZlG18
import Derived.Test.YtdcimnmebgkmjaaGreatDoorZlG08
import Derived.Test.YtdcimnmebgkmjaaGreatDoorZlG17
namespace Go.Proofs.YtdcimnmebgkmjaaGreatDoor
open Go.RowKit Go.Proofs.Fd Go.Proofs.Dk Go.Proofs.Lg
set_option maxRecDepth 20000
theorem rzeros_any (n : Nat) (hn : n ≤ 1000) (w : World) : Calls Tryz.prog 104 #[.int .i64 (n : Int)] w fun e w' => e = .returned (sv (zr n)) ∧ Below w.heap.size w w' := by
  obtain ⟨W, MK, BM, BB⟩ := lmake_n n hn w
  have CV := BM.string (cap := n) (zr_len n)
  have HB : Hid (Below w.heap.size w W) := BB
  have hn0 : (0 : Int) ≤ (n : Int) := by omega
  clear BB BM hn
  go_enter Tryz.func104, Tryz.ntmps104
  go_wp2
  go_ret
  exact ⟨rfl, HB.out⟩
theorem rmark_any (x : Bs) (hx : x.length ≤ 1000000) (w : World) : Calls Tryz.prog 67 #[sv x] w fun e w' => e = .returned (sv (Lg.mk x)) ∧ Below w.heap.size w w' := by
  have DG : Hid (∀ w, Calls Tryz.prog 103 #[.string (st x)] w fun e w' => e = .returned (.string (st (Hs.sha x))) ∧ Below w.heap.size w w') := rDigest_any (st x) (by rw [st_size]; omega)
  have HP : Hid ((st (Hs.sha x)).extract 0 16 = st (Lg.mk x)) := by
    show (st (Hs.sha x)).extract 0 16 = st (Lg.mk x)
    rw [st_cut, Lg.mk, List.drop_zero]
  have hs : (st (Hs.sha x)).size = 32 := rfl
  obtain ⟨X, hX⟩ : ∃ X, st x = X := ⟨_, rfl⟩
  obtain ⟨Y, hY⟩ : ∃ Y, st (Hs.sha x) = Y := ⟨_, rfl⟩
  unfold sv
  rw [hX] at DG ⊢
  rw [hY] at DG HP hs
  clear hX hY hx
  go_enter Tryz.func67, Tryz.ntmps67
  go_wp2_with fail
  refine Calls.mono (DG.out _) ?_
  rintro e w1 ⟨rfl, hb⟩
  have B1 : Hid _ := hb
  clear hb DG
  go_wp2
  go_ret
  exact ⟨by rw [← HP.out]; rfl, B1.out⟩
theorem rhalf_any (d : Nat) (G : Nat → Prop) (s : St) (w : World) (h : DAt w d G s) (hn : s.n ≤ 1000000) : Calls Tryz.prog 64 #[.pointer (some ⟨d, 0, none⟩)] w fun e w' => e = .returned (.int .i64 ((s.n / 2 : Nat) : Int)) ∧ w' = w := by
  obtain ⟨-, sg, sc, v, -, hr⟩ := h
  have c4 := hr.c4
  obtain ⟨n, hnn⟩ : ∃ n, s.n = n := ⟨_, rfl⟩
  rw [hnn] at c4 hn ⊢
  obtain ⟨m, hm⟩ : ∃ m, n / 2 = m := ⟨_, rfl⟩
  have e1 : (n : Int) / 2 = (m : Int) := by omega
  have y1 : IntKind.i64.wrap (m : Int) = (m : Int) := by rw [IntKind.wrap_i64]; omega
  rw [hm]
  clear hr hnn hm
  go_enter Tryz.func64, Tryz.ntmps64
  go_wp2
  go_ret
  exact ⟨rfl, rfl⟩
theorem rmay_any (s : ByteArray) (w : World) : Calls Tryz.prog 75 #[.string s] w fun e w' => e = .returned (.int .i64 (may s.data.toList)) ∧ w' = w := by
  have hs : s.data.toList.length = s.size := by simp
  unfold may
  rw [hs]
  by_cases h1 : s.size < 1
  · rw [if_pos h1]
    have e : s.toList = [] := by
      rw [ByteArray.toList_eq]
      exact List.length_eq_zero_iff.1 (by rw [hs]; omega)
    have e2 : s.toList.isEmpty = true := by rw [e]; rfl
    go_enter Tryz.func75, Tryz.ntmps75
    go_wp2
    go_ret
    exact ⟨rfl, rfl⟩
  · rw [if_neg h1]
    have e : ¬ s.toList = [] := fun c => by
      rw [ByteArray.toList_eq] at c
      have := congrArg List.length c
      rw [hs, List.length_nil] at this
      omega
    have e2 : s.toList.isEmpty = false := by
      cases hx : s.toList with
      | nil => exact absurd hx e
      | cons _ _ => rfl
    by_cases h2 : 2000 < s.size
    · rw [if_pos h2]
      have g2 : (2000 : Int) < (s.size : Int) := by omega
      go_enter Tryz.func75, Tryz.ntmps75
      go_wp2
      go_ret
      exact ⟨rfl, rfl⟩
    · rw [if_neg h2]
      have g2 : ¬ (2000 : Int) < (s.size : Int) := by omega
      go_enter Tryz.func75, Tryz.ntmps75
      go_wp2
      go_ret
      exact ⟨rfl, rfl⟩
theorem rsectors_any (x : Bs) (hx : x.length ≤ 1000000) (w : World) : Calls Tryz.prog 76 #[sv x] w fun e w' => e = .returned (.int .i64 (sn x : Int)) ∧ w' = w := by
  have hs : (st x).size = x.length := st_size x
  have e1 : (18 + ((st x).size : Int) + 64 - 1) / 64 = (sn x : Int) := by rw [hs]; unfold sn; omega
  have hl : (st x).size ≤ 1000000 := by omega
  obtain ⟨X, hX⟩ : ∃ X, st x = X := ⟨_, rfl⟩
  unfold sv
  rw [hX] at e1 hl ⊢
  have y1 : IntKind.i64.wrap (sn x : Int) = (sn x : Int) := by rw [← e1, IntKind.wrap_i64]; omega
  obtain ⟨z, hz⟩ : ∃ z, sn x = z := ⟨_, rfl⟩
  rw [hz] at e1 y1 ⊢
  clear hs hX hx hz
  go_enter Tryz.func76, Tryz.ntmps76
  go_wp2
  go_ret
  exact ⟨by rw [← e1]; rfl, rfl⟩
theorem bytes_new (w : World) (l : Bs) (a : Array Value) (h : a.toList = l.map fun b => Value.int .u8 (b.toNat : Int)) : BytesAt (w.alloc (.cells a 5)) w.heap.size l := fun j hj => by
  refine ⟨?_, by simp [go_sem]⟩
  rw [World.cell?_alloc_new]
  have : a[j]? = a.toList[j]? := by simp
  rw [this, h]
  simp [hj]
set_option maxHeartbeats 1000000 in
theorem rplain_any (g : Nat) (w : World) : Calls Tryz.prog 68 #[.int .i64 (g : Int)] w fun e w' => e = .returned (sv (hf g)) ∧ Below w.heap.size w w' := by
  have b3 : (g : Int) / 16777216 % 256 = ((UInt8.ofNat (g / 2 ^ 24)).toNat : Int) := by rw [UInt8.toNat_ofNat']; omega
  have b2 : (g : Int) / 65536 % 256 = ((UInt8.ofNat (g / 2 ^ 16)).toNat : Int) := by rw [UInt8.toNat_ofNat']; omega
  have b1 : (g : Int) / 256 % 256 = ((UInt8.ofNat (g / 2 ^ 8)).toNat : Int) := by rw [UInt8.toNat_ofNat']; omega
  have b0 : (g : Int) % 256 = ((UInt8.ofNat g).toNat : Int) := by rw [UInt8.toNat_ofNat']; omega
  have hb4 : ben g 4 = [UInt8.ofNat (g / 2 ^ 24), UInt8.ofNat (g / 2 ^ 16), UInt8.ofNat (g / 2 ^ 8), UInt8.ofNat g] := by
    simp [ben, List.range_succ]
  have HP : Hid ((⟨#[76, 79, 71, 0]⟩ : ByteArray) ++ st (ben g 4) = st (hf g)) := st_app [76, 79, 71, 0] (ben g 4)
  rw [hb4] at HP
  obtain ⟨c3, h3⟩ : ∃ c, UInt8.ofNat (g / 2 ^ 24) = c := ⟨_, rfl⟩
  obtain ⟨c2, h2⟩ : ∃ c, UInt8.ofNat (g / 2 ^ 16) = c := ⟨_, rfl⟩
  obtain ⟨c1, h1⟩ : ∃ c, UInt8.ofNat (g / 2 ^ 8) = c := ⟨_, rfl⟩
  obtain ⟨c0, h0⟩ : ∃ c, UInt8.ofNat g = c := ⟨_, rfl⟩
  rw [h3] at b3 HP
  rw [h2] at b2 HP
  rw [h1] at b1 HP
  rw [h0] at b0 HP
  have CV := (bytes_new w [c3, c2, c1, c0] #[.int .u8 (c3.toNat : Int), .int .u8 (c2.toNat : Int), .int .u8 (c1.toNat : Int), .int .u8 (c0.toNat : Int)] rfl).string (cap := 4) (n := 4) rfl
  have hy : (st [c3, c2, c1, c0]).size = 4 := rfl
  clear h0 h1 h2 h3 hb4
  go_enter Tryz.func68, Tryz.ntmps68
  go_wp2
  go_ret
  exact ⟨by show _ = Ending.returned (.string (st (hf g))); rw [← HP.out]; rfl, (Below.refl _ _).alloc (Nat.le_refl _) _⟩
end Go.Proofs.YtdcimnmebgkmjaaGreatDoor
namespace Go.Proofs.YtdcimnmebgkmjaaGreatDoor
open Go.RowKit Go.Proofs.Fd Go.Proofs.Dk Go.Proofs.Lg
set_option maxRecDepth 20000
theorem wrS_n (s : St) (k : Int) (t : Bs) : (wrS s k t).n = s.n := by
  unfold wrS
  split
  · rfl
  · split
    · rfl
    · split <;> rfl
structure Dw (v : World) (d : Nat) (G : Nat → Prop) (wr : World) (G' : Nat → Prop) (s : St) : Prop where
  at_ : DAt wr d G' s
  nx : Nx v G G'
  bf : Bf G v wr
theorem Dw.stp {v wr wr' : World} {d : Nat} {G G' : Nat → Prop} {s t : St} (h : Dw v d G wr G' s) (k : DSt wr d G' t wr') : ∃ G'', Dw v d G wr' G'' t := by
  obtain ⟨G'', k1, k2, k3⟩ := k
  exact ⟨G'', k1, h.nx.trans k2 h.bf.size, h.bf.trans h.nx k3⟩
theorem Dw.later {v wr wr' : World} {d : Nat} {G G' : Nat → Prop} {s : St} (h : Dw v d G wr G' s) (hb : Below wr.heap.size wr wr') : Dw v d G wr' G' s := ⟨h.at_.later hb, h.nx, h.bf.later hb⟩
theorem Dw.ds {v wr : World} {d : Nat} {G G' : Nat → Prop} {s : St} (h : Dw v d G wr G' s) : DSt v d G s wr := ⟨G', h.at_, h.nx, h.bf⟩
set_option maxHeartbeats 2000000 in
theorem rwrb_any (v : World) (d : Nat) (G : Nat → Prop) (s : St) (hh fr : Nat) (b : Bs) (m : Nat) (h1 : hh ≤ 1) (hn : s.n ≤ 1024) (hb : b.length = 64 * m) (hm : m ≤ 100) (hz : fr ≤ 1024) (hl : s.l.length + m ≤ 1000000) (h : Hid (DAt v d G s)) :
    Calls Tryz.prog 105 #[.pointer (some ⟨d, 0, none⟩), .int .i64 (hh : Int), .int .i64 (fr : Int), sv b] v fun e w' => e = .returned (.int .i64 (wrb s (hh * (s.n / 2) + fr) b).1) ∧ DSt v d G (wrb s (hh * (s.n / 2) + fr) b).2 w' := by
  have hs : (st b).size = 64 * m := by rw [st_size, hb]
  have I0 : Hid (Dw v d G v G s) := ⟨h.out, Nx.refl _ _, Bf.refl _ _⟩
  obtain ⟨H, hH⟩ : ∃ H, s.n / 2 = H := ⟨_, rfl⟩
  have hH2 : H ≤ 512 := by omega
  obtain ⟨K, hK⟩ : ∃ K, hh * H = K := ⟨_, rfl⟩
  have hK2 : K ≤ 512 := by
    rcases (by omega : hh = 0 ∨ hh = 1) with e | e
    · rw [← hK, e, Nat.zero_mul]; omega
    · rw [← hK, e, Nat.one_mul]; omega
  have eK : (hh : Int) * (H : Int) = (K : Int) := by rw [← hK]; simp
  have yK : IntKind.i64.wrap (K : Int) = (K : Int) := by rw [IntKind.wrap_i64]; omega
  rw [hH, hK]
  have CUT : Hid (∀ j, (st b).extract (64 * j) (64 * j + 64) = st ((b.drop (64 * j)).take 64)) := fun j => by
    rw [st_cut, List.drop_take, show 64 * j + 64 - 64 * j = 64 by omega]
  have EW : Hid (wrb s (K + fr) b = wrs s (K + fr) (chs m b)) := by
    show wrb s (K + fr) b = _
    rw [wrb, hb, show 64 * m / 64 = m by omega]
  have HN : Hid (s.n / 2 = H ∧ s.n ≤ 1024) := ⟨hH, hn⟩
  obtain ⟨r, hr⟩ : ∃ r, wrb s (K + fr) b = r := ⟨_, rfl⟩
  rw [hr] at EW ⊢
  obtain ⟨X, hX⟩ : ∃ X, st b = X := ⟨_, rfl⟩
  unfold sv
  rw [hX] at hs CUT ⊢
  have HS : Hid (X.size = 64 * m) := hs
  clear hX hr hb h hs hH hK hn h1
  go_enter Tryz.func105, Tryz.ntmps105
  go_wp2
  go_loopw [9] (fun i wr => ∃ (j : Nat) (G' : Nat → Prop) (s' : St), j ≤ m ∧ i = .int .i64 ((64 * j : Nat) : Int) ∧ Hid (Dw v d G wr G' s' ∧ s'.n = s.n ∧ s'.l.length ≤ s.l.length + j ∧ r = wrs s' (K + fr + j) (chs (m - j) (b.drop (64 * j))))) (fun i _ => 64 * m - (intOf i).toNat)
  case atStart => exact ⟨0, G, s, Nat.zero_le _, rfl, I0.out, rfl, Nat.le_refl _, EW.out⟩
  case round =>
    obtain ⟨j, G', s', hj, rfl, I⟩ := hrel
    clear I0 EW
    by_cases hjm : j < m
    · have hx := wrs_next (s := s') (k := K + fr) (b := b) hjm
      have hr := I.out.2.2.2
      rw [hx] at hr
      have HR : Hid (r = _) := hr
      clear hr hx
      have CT := CUT.out j
      obtain ⟨t, ht⟩ : ∃ t, (b.drop (64 * j)).take 64 = t := ⟨_, rfl⟩
      rw [ht] at CT HR
      clear ht
      obtain ⟨q, hq⟩ : ∃ q, 64 * j = q := ⟨_, rfl⟩
      rw [hq] at CT ⊢
      have hs := HS.out
      have g1 : (q : Int) < (X.size : Int) := by omega
      have g2 : (q : Int) + 64 ≤ (X.size : Int) := by omega
      have g3 : (q : Int) / 64 = (j : Int) := by omega
      have g4 : (0 : Int) ≤ (q : Int) := by omega
      have g5 : (q : Int) ≤ (q : Int) + 64 := by omega
      have hq2 : q ≤ 6400 := by omega
      have hj2 : j ≤ 100 := by omega
      have y1 : IntKind.i64.wrap ((q : Int) + 64) = (q : Int) + 64 := by rw [IntKind.wrap_i64]; omega
      have y4 : IntKind.i64.wrap (j : Int) = (j : Int) := by rw [IntKind.wrap_i64]; omega
      have y2 : IntKind.i64.wrap ((K : Int) + (fr : Int)) = (K : Int) + (fr : Int) := by rw [IntKind.wrap_i64]; omega
      have y3 : IntKind.i64.wrap ((K : Int) + (fr : Int) + (j : Int)) = (K : Int) + (fr : Int) + (j : Int) := by rw [IntKind.wrap_i64]; omega
      clear hs
      have HA : Hid (∀ W, Below wr.heap.size wr W → Calls Tryz.prog 64 #[.pointer (some ⟨d, 0, none⟩)] W fun e w' => e = .returned (.int .i64 (H : Int)) ∧ w' = W) := fun W hb => by
        have e := I.out.2.1
        have := rhalf_any d G' s' W (I.out.1.at_.later hb) (by rw [e]; have := HN.out.2; omega)
        rw [e, HN.out.1] at this
        exact this
      have W1 : Hid (∀ W, Below wr.heap.size wr W → Calls Tryz.prog 35 #[.pointer (some ⟨d, 0, none⟩), .int .i64 ((K : Int) + (fr : Int) + (j : Int)), .string (st t)] W fun e w' => e = .returned (.int .i64 (wrE s' ((K + fr + j : Nat) : Int) t)) ∧ ∃ G'', Dw v d G w' G'' (wrS s' ((K + fr + j : Nat) : Int) t)) := fun W hb => by
        have := rwrite_any d G' s' ((K + fr + j : Nat) : Int) (st t) W (I.out.1.at_.later hb) (by have := I.out.2.2.1; omega)
        have e : ((K + fr + j : Nat) : Int) = (K : Int) + (fr : Int) + (j : Int) := by omega
        rw [e] at this ⊢
        exact this.mono fun _ _ ⟨he, k⟩ => ⟨he, (I.out.1.later hb).stp k⟩
      have L1 : Hid ((wrS s' ((K + fr + j : Nat) : Int) t).n = s.n ∧ (wrS s' ((K + fr + j : Nat) : Int) t).l.length ≤ s.l.length + (j + 1)) := ⟨(wrS_n _ _ _).trans I.out.2.1, Nat.le_trans (wrS_len _ _ _) (by have := I.out.2.2.1; omega)⟩
      obtain ⟨x, hx⟩ : ∃ x, wrE s' ((K + fr + j : Nat) : Int) t = x := ⟨_, rfl⟩
      obtain ⟨s2, hs2⟩ : ∃ s2, wrS s' ((K + fr + j : Nat) : Int) t = s2 := ⟨_, rfl⟩
      rw [hx, hs2] at HR W1
      rw [hs2] at L1
      clear I hx hs2 CUT
      obtain ⟨T, hT⟩ : ∃ T, st t = T := ⟨_, rfl⟩
      rw [hT] at CT W1
      have SLI : ∀ W, (Instr.slice 9 (.string X) (some (.int .i64 (q : Int))) (some (.int .i64 ((q : Int) + 64))) none).run Tryz.prog W = .ok (.string T) W := fun W => by
        rw [← CT]
        exact cut_run X q (q + 64) _ _ rfl (by omega) (by omega) (by omega) W
      clear hT CT
      by_cases h0 : x = 0
      · subst h0
        have HR2 : Hid (r = wrs s2 (K + fr + (j + 1)) (chs (m - (j + 1)) (b.drop (64 * (j + 1))))) := HR.out
        clear HR
        go_wp2_with fail
        go_region_with (first
          | (go_at_call 64; refine Calls.mono (HA.out _ (by first | exact Below.refl _ _ | exact (Below.refl _ _).drew)) ?_; rintro e w1 ⟨rfl, rfl⟩)
          | (go_at_call 35; refine Calls.mono (W1.out _ (by first | exact Below.refl _ _ | exact (Below.refl _ _).drew)) ?_; rintro e w1 ⟨rfl, F2, J2⟩))
        all_goals
          go_wp2
          go_roundw
          case rel => exact ⟨j + 1, F2, s2, by omega, by first | rfl | (congr 1; omega), J2, L1.out.1, L1.out.2, HR2.out⟩
          case measure => simp [intOf]; omega
      · have HR2 : Hid (r = (x, s2)) := by
          show r = (x, s2)
          rw [HR.out, thn_no h0]
        clear HR
        go_wp2_with fail
        go_region_with (first
          | (go_at_call 64; refine Calls.mono (HA.out _ (by first | exact Below.refl _ _ | exact (Below.refl _ _).drew)) ?_; rintro e w1 ⟨rfl, rfl⟩)
          | (go_at_call 35; refine Calls.mono (W1.out _ (by first | exact Below.refl _ _ | exact (Below.refl _ _).drew)) ?_; rintro e w1 ⟨rfl, F2, J2⟩))
        all_goals
          go_wp2
          go_ret
          exact ⟨by rw [HR2.out]; rfl, by rw [HR2.out]; exact J2.ds⟩
    · obtain rfl : j = m := by omega
      have HR2 : Hid (r = (0, s')) := by
        show r = _
        rw [I.out.2.2.2, Nat.sub_self]
        rfl
      have hs := HS.out
      have g1 : ¬ (((64 * j : Nat) : Int) < (X.size : Int)) := by omega
      obtain ⟨q, hq⟩ : ∃ q, 64 * j = q := ⟨_, rfl⟩
      rw [hq] at g1 ⊢
      clear hs CUT
      go_wp2
      go_ret
      exact ⟨by rw [HR2.out]; rfl, by rw [HR2.out]; exact I.out.1.ds⟩
end Go.Proofs.YtdcimnmebgkmjaaGreatDoor
