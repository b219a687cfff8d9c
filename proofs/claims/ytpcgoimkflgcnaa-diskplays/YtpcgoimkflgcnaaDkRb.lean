/- The document's Read and Write. -/
import Derived.Test.YtpcgoimkflgcnaaDkRa
import Derived.Lib.AppendZeros
namespace Go.Proofs.Ytpcgoimkflgcnaa
open Go.RowKit Go.Proofs.Fd Go.Proofs.Dk
set_option maxRecDepth 20000

theorem lay_take {f : Nat → Bs} {l : List Wt} {i : Nat} (hi : i < l.length) : lay f (l.take (i + 1)) = upd (lay f (l.take i)) l[i].k l[i].b := by
  rw [List.take_succ_eq_append_getElem hi, lay_app]
set_option maxHeartbeats 1000000 in
theorem rread_any (d : Nat) (G : Nat → Prop) (s : St) (k : Int) (w : World) (h : DAt w d G s) (hl : s.l.length ≤ 1000000) :
    Calls Try.prog 16 #[.pointer (some ⟨d, 0, none⟩), .int .i64 k] w fun e w' => e = .returned (.tuple #[sv (rdV s k), .int .i64 (rch s k)]) ∧ w' = w := by
  obtain ⟨ho, sg, sc, v, -, hr⟩ := h
  have c3 := hr.c3
  have c4 := hr.c4
  by_cases hd : s.down = true
  · have e1 : rch s k = 150 := if_pos hd
    have e2 : rdV s k = [] := by rw [rdV, e1, if_neg (by decide)]
    rw [e1, e2]
    rw [hd] at c3
    clear hr ho e1 e2 hd c4 hl
    go_enter Try.func16, Try.ntmps16
    go_wp2
    go_ret2
    exact ⟨rfl, rfl⟩
  · have hd' : s.down = false := by simpa using hd
    rw [hd'] at c3
    by_cases h0 : k < 0
    · have e1 : rch s k = 1 := by rw [rch, if_neg hd, if_pos (.inl h0)]
      have e2 : rdV s k = [] := by rw [rdV, e1, if_neg (by decide)]
      rw [e1, e2]
      clear hr ho e1 e2 hd hd' c4 hl
      go_enter Try.func16, Try.ntmps16
      go_wp2
      go_ret2
      exact ⟨rfl, rfl⟩
    · by_cases h1 : (s.n : Int) ≤ k
      · have e1 : rch s k = 1 := by rw [rch, if_neg hd, if_pos (.inr h1)]
        have e2 : rdV s k = [] := by rw [rdV, e1, if_neg (by decide)]
        rw [e1, e2]
        obtain ⟨n, hn⟩ : ∃ n, s.n = n := ⟨_, rfl⟩
        rw [hn] at c4 h1
        clear hr ho e1 e2 hd hd' hl hn
        go_enter Try.func16, Try.ntmps16
        go_wp2
        go_ret2
        exact ⟨rfl, rfl⟩
      · have e1 : rch s k = 0 := by rw [rch, if_neg hd, if_neg (by omega)]
        have e2 : rdV s k = s.sh k.toNat := by rw [rdV, if_pos e1]
        rw [e1, e2]
        obtain ⟨m, rfl⟩ : ∃ m : Nat, k = (m : Int) := ⟨k.toNat, by omega⟩
        rw [Int.toNat_natCast]
        have hm : m < s.n := by omega
        have c0 := hr.c0
        have c1 := hr.c1
        have cs := hr.sr.c m hm
        obtain ⟨va, vc, rfl⟩ := ownsD_slice hr.row
        have HR : Hid (OwnsD w (.slice va s.l.length vc) s.l) := hr.row
        have HQ : Hid (s.sh = lay s.f s.l) := (rfl : s.sh = lay s.f s.l)
        obtain ⟨f, hf⟩ : ∃ f, s.f = f := ⟨_, rfl⟩
        obtain ⟨l, hll⟩ : ∃ l, s.l = l := ⟨_, rfl⟩
        obtain ⟨n, hn⟩ : ∃ n, s.n = n := ⟨_, rfl⟩
        rw [hf] at cs HQ
        rw [hll] at c1 HR HQ hl
        rw [hn] at c0 c4 h1 hm
        obtain ⟨q, hq⟩ : ∃ q, l.length = q := ⟨_, rfl⟩
        have HL : Hid (l.length = q) := hq
        rw [hq] at c1 HR hl
        have hm2 : (m : Int) < (n : Int) := by omega
        clear hr ho e1 e2 hd hd' hf hll hn hq h1 h0
        go_enter Try.func16, Try.ntmps16
        go_wp2_with fail
        go_loopw [6, 7] (fun x i wr => ∃ j : Nat, j ≤ q ∧ i = .int .i64 (j : Int) ∧ x = sv (lay f (l.take j) m) ∧ w = wr) (fun x i wr => q - (intOf i).toNat)
        case atStart => exact ⟨0, Nat.zero_le _, rfl, rfl, rfl⟩
        case round =>
          obtain ⟨j, hj, rfl, rfl, hw⟩ := hrel
          subst hw
          by_cases hjq : j < q
          · have g1 : (j : Int) < (q : Int) := by omega
            have hjl : j < l.length := by have := HL.out; omega
            obtain ⟨g, rfl, -, x0, x1⟩ := ownsD_cells HR.out j hjl
            have LT := lay_take (f := f) hjl
            obtain ⟨x, hx⟩ : ∃ x, l[j] = x := ⟨_, rfl⟩
            rw [hx] at x0 x1 LT
            have LT2 : Hid (lay f (l.take (j + 1)) m = upd (lay f (l.take j)) x.k x.b m) := by rw [LT]; exact rfl
            clear LT hx
            by_cases hxm : x.k = m
            · have gx : (x.k : Int) = (m : Int) := by omega
              have e3 : lay f (l.take (j + 1)) m = x.b := by rw [LT2.out, ← hxm, upd_same]
              rw [gx] at x0
              have E3 : Hid _ := e3
              clear e3 LT2 gx hxm
              go_wp2
              go_roundw
              case rel => exact ⟨j + 1, by omega, by go_num, by rw [E3.out], trivial⟩
              case measure => simp [intOf]; omega
            · have gx : ¬ (x.k : Int) = (m : Int) := by omega
              have E3 : Hid (lay f (l.take (j + 1)) m = lay f (l.take j) m) := by rw [LT2.out, upd_other _ _ (Ne.symm hxm)]; exact rfl
              clear LT2 hxm
              go_wp2
              go_roundw
              case rel => exact ⟨j + 1, by omega, by go_num, by rw [E3.out], trivial⟩
              case measure => simp [intOf]; omega
          · obtain rfl : j = q := by omega
            have E4 : Hid (lay f (l.take j) m = s.sh m) := by
              rw [HQ.out, List.take_of_length_le (by have := HL.out; omega)]
              exact rfl
            go_wp2
            go_ret2
            exact ⟨by rw [← E4.out]; rfl, rfl⟩
/-- What an append takes. -/
def Src (w : World) (x : Value) (l : List Wt) : Prop := (x = .slice none 0 0 ∧ l = []) ∨ ∃ g c, x = .slice (some ⟨g, 0, none⟩) l.length c ∧ ∀ j u, (dcs l)[j]? = some u → w.cell? ⟨g, j, none⟩ = some u
theorem OwnsD.src {w : World} {v : Value} {l : List Wt} (h : OwnsD w v l) : Src w v l := by
  have h0 := h
  rcases h.2 with ⟨rfl, hl⟩ | ⟨g, cap, cur, rfl, -⟩
  · exact .inl ⟨rfl, List.length_eq_zero_iff.1 hl⟩
  · refine .inr ⟨g, cap, rfl, fun j u hu => ?_⟩
    have hj : j < l.length * 2 := by have := (List.getElem?_eq_some_iff.1 hu).1; rw [dcs_len] at this; exact this
    rw [h0.cellAt j hj]
    exact hu
theorem Src.later {w w' : World} {x : Value} {l : List Wt} (h : Src w x l) (hb : Below w.heap.size w w') : Src w' x l := by
  rcases h with h | ⟨g, c, h1, h2⟩
  · exact .inl h
  · exact .inr ⟨g, c, h1, fun j u hu => cell_later hb (h2 j u hu)⟩
theorem app_src (w : World) (ty : TypeId) (v x : Value) (l m : List Wt) (h : OwnsD w v l) (k : Src w x m) (hl : l.length + m.length ≤ 1000001) :
    ∃ va vc w', (Builtin.append_ #[47, 47] ty #[v, x]).run Try.prog w = .ok (.slice va (l ++ m).length vc) w' ∧ OwnsD w' (.slice va (l ++ m).length vc) (l ++ m) ∧ w.grownBy w' v.ownBlock ∧ ((Value.slice va (l ++ m).length vc).ownBlock = v.ownBlock ∨ (Value.slice va (l ++ m).length vc).ownBlock = some w.heap.size) := by
  obtain ⟨i0, hi, hz0, hz1, hz2⟩ := info_parts infoD
  rcases k with ⟨rfl, rfl⟩ | ⟨g, c, rfl, hc⟩
  · obtain ⟨va, vc, rfl⟩ := ownsD_slice h
    rw [List.append_nil]
    exact ⟨va, vc, w, run_append_owned_none (P := Try.prog) w 0 47 ty 68 i0 2 Try.underlying47 hi _ _ _ h, h, ⟨rfl, rfl, rfl, Nat.le_refl _, fun _ _ _ => rfl⟩, .inl rfl⟩
  · obtain ⟨v', w', r1, r2, r3, -, r5⟩ := run_append_own_at (P := Try.prog) w 0 47 ty 68 i0 _ 2 24 Try.underlying47 hi hz0 hz1 hz2 rfl (by decide) v l.length (dcs l) h ⟨g, 0, none⟩ m.length c (dcs m) (dcs_len m) (fun j u hu => by
        rw [Addr.add_mid, Nat.zero_add]
        exact hc j u hu) (dcs_one m) (by unfold maxLen; omega) (by omega) (Nat.zero_le _)
    have r2' : OwnsD w' v' (l ++ m) := by
      unfold OwnsD
      rw [dcs_app, List.length_append]
      exact r2
    obtain ⟨va, vc, rfl⟩ := ownsD_slice r2'
    exact ⟨va, vc, w', r1, r2', r3, r5⟩
/-- A row of writes, copied, and one more behind it. -/
theorem wrote_d (W : World) (v : Value) (l : List Wt) (x : Wt) (h : OwnsD W v l) (hl : l.length ≤ 1000000) :
    ∃ va vc w1, (Builtin.append_ #[47, 47] 47 #[.slice (some ⟨W.heap.size, 0, none⟩) 0 0, v]).run Try.prog (W.alloc (.cells #[] 68)) = .ok (.slice va l.length vc) w1
      ∧ ∃ ua uc w2, (Builtin.append_ #[47, 47] 47 #[.slice va l.length vc, .slice (some ⟨w1.heap.size, 0, none⟩) 1 1]).run Try.prog (w1.alloc (.cells #[.int .i64 (x.k : Int), sv x.b] 68)) = .ok (.slice ua (l ++ [x]).length uc) w2
        ∧ Hid (OwnsD w2 (.slice ua (l ++ [x]).length uc) (l ++ [x]) ∧ Below W.heap.size W w2 ∧ ∀ g, (Value.slice ua (l ++ [x]).length uc).ownBlock = some g → W.heap.size ≤ g) := by
  have b0 : Below W.heap.size W (W.alloc (.cells #[] 68)) := (Below.refl _ _).alloc (Nat.le_refl _) _
  have o0 : OwnsD (W.alloc (.cells #[] 68)) (.slice (some ⟨W.heap.size, 0, none⟩) 0 0) [] := World.ownsRow_lit W #[] 0 (Nat.zero_le _) (Nat.zero_le _) rfl
  obtain ⟨va, vc, w1, r1, r2, r3, r4⟩ := app_src _ 47 _ v [] l o0 (h.src.later b0) (by simp; omega)
  rw [List.nil_append] at r1 r2 r4
  have b1 : Below W.heap.size W w1 := ⟨r3.os.trans b0.os, r3.tape.trans b0.tape, r3.output.trans b0.output, Nat.le_trans b0.size r3.size, fun g hg => (r3.block g (Nat.lt_of_lt_of_le hg b0.size) (fun e => by injection e with e; simp only at e; omega)).trans (b0.block g hg)⟩
  have n1 : ∀ g, (Value.slice va l.length vc).ownBlock = some g → W.heap.size ≤ g := fun g e => by
    rcases r4 with c | c
    · rw [c] at e
      injection e with e
      simp only at e
      omega
    · rw [c] at e
      injection e with e
      have := b0.size
      omega
  have b2 : Below w1.heap.size w1 (w1.alloc (.cells #[.int .i64 (x.k : Int), sv x.b] 68)) := (Below.refl _ _).alloc (Nat.le_refl _) _
  have r2' : OwnsD (w1.alloc (.cells #[.int .i64 (x.k : Int), sv x.b] 68)) (.slice va l.length vc) l := ownsRow_same r2 (fun g e => b2.block g (r2.lt g e).2)
  obtain ⟨ua, uc, w2, q1, q2, q3, q4⟩ := app_src _ 47 _ (.slice (some ⟨w1.heap.size, 0, none⟩) 1 1) l [x] r2' (.inr ⟨w1.heap.size, 1, rfl, fun j u hu => by
    rw [World.cell?_alloc_new]
    simpa [dcs, dc] using hu⟩) (by simp; omega)
  have b3 := chain b1 b2
  refine ⟨va, vc, w1, r1, ua, uc, w2, q1, q2, ?_, fun g e => ?_⟩
  · refine ⟨q3.os.trans b3.os, q3.tape.trans b3.tape, q3.output.trans b3.output, Nat.le_trans b3.size q3.size, fun g hg => (q3.block g (Nat.lt_of_lt_of_le hg b3.size) (fun e => ?_)).trans (b3.block g hg)⟩
    have := n1 g e.symm
    omega
  · rcases q4 with c | c
    · rw [c] at e
      exact n1 g e
    · rw [c] at e
      injection e with e
      have := b3.size
      omega
theorem DAt.wrote {W : World} {d : Nat} {G : Nat → Prop} {s : St} (h : DAt W d G s) {x : Wt} {ua : Option Addr} {uc : Nat} {w2 : World} (hk : Ok { s with l := s.l ++ [x] }) (ho : OwnsD w2 (.slice ua (s.l ++ [x]).length uc) (s.l ++ [x])) (hb : Below W.heap.size W w2) (hn : ∀ g, (Value.slice ua (s.l ++ [x]).length uc).ownBlock = some g → W.heap.size ≤ g) :
    DSt W d G { s with l := s.l ++ [x] } (w2.setCell ⟨d, 1, none⟩ (.slice ua (s.l ++ [x]).length uc)) := by
  obtain ⟨-, sg, sc, v, rfl, hr⟩ := h
  obtain ⟨r1, r2, r3⟩ := hr.setRow hb ho hn
  exact ⟨_, ⟨hk, sg, sc, _, rfl, r1⟩, r2, r3⟩
set_option maxHeartbeats 1000000 in
theorem rwrite_any (d : Nat) (G : Nat → Prop) (s : St) (k : Int) (t : ByteArray) (w : World) (h : DAt w d G s) (hl : s.l.length ≤ 1000000) :
    Calls Try.prog 14 #[.pointer (some ⟨d, 0, none⟩), .int .i64 k, .string t] w fun e w' => e = .returned (.int .i64 (wrE s k t.data.toList)) ∧ DSt w d G (wrS s k t.data.toList) w' := by
  have c34 : w.cell? ⟨d, 3, none⟩ = some (.bool s.down) ∧ w.cell? ⟨d, 4, none⟩ = some (.int .i64 (s.n : Int)) := by
    obtain ⟨-, sg, sc, v, -, hr⟩ := h
    exact ⟨hr.c3, hr.c4⟩
  obtain ⟨c3, c4⟩ := c34
  have ts : t.data.toList.length = t.size := by simp
  have hww := h.1.wr k t.data.toList
  by_cases hd : s.down = true
  · have e0 : rch s k = 150 := if_pos hd
    have hne : rch s k ≠ 0 := by rw [e0]; decide
    rw [(wrE_reach hne).1, (wrE_reach hne).2, e0]
    rw [hd] at c3
    have FF : Hid (DSt w d G s w) := h.stays (Below.refl _ _)
    clear h hne e0 hd ts hl c4 hww
    go_enter Try.func14, Try.ntmps14
    go_wp2
    go_ret
    exact ⟨rfl, FF.out⟩
  · have hd' : s.down = false := by simpa using hd
    rw [hd'] at c3
    by_cases h0 : k < 0
    · have e0 : rch s k = 1 := by rw [rch, if_neg hd, if_pos (.inl h0)]
      have hne : rch s k ≠ 0 := by rw [e0]; decide
      rw [(wrE_reach hne).1, (wrE_reach hne).2, e0]
      have FF : Hid (DSt w d G s w) := h.stays (Below.refl _ _)
      clear h hne e0 hd hd' ts hl c4 hww
      go_enter Try.func14, Try.ntmps14
      go_wp2
      go_ret
      exact ⟨rfl, FF.out⟩
    · by_cases h1 : (s.n : Int) ≤ k
      · have e0 : rch s k = 1 := by rw [rch, if_neg hd, if_pos (.inr h1)]
        have hne : rch s k ≠ 0 := by rw [e0]; decide
        rw [(wrE_reach hne).1, (wrE_reach hne).2, e0]
        have FF : Hid (DSt w d G s w) := h.stays (Below.refl _ _)
        obtain ⟨n, hn⟩ : ∃ n, s.n = n := ⟨_, rfl⟩
        rw [hn] at c4 h1
        clear h hne e0 hd hd' ts hl hn hww
        go_enter Try.func14, Try.ntmps14
        go_wp2
        go_ret
        exact ⟨rfl, FF.out⟩
      · have e0 : rch s k = 0 := by rw [rch, if_neg hd, if_neg (by omega)]
        by_cases h64 : t.data.toList.length = 64
        · have hsz : t.size = 64 := by omega
          have BN : Hid _ := rburns_any d G s hd' w h
          by_cases hf : s.fuse = 1
          · rw [(wrE_fuse e0 h64 hf).1, (wrE_fuse e0 h64 hf).2]
            rw [decide_eq_true hf] at BN
            obtain ⟨n, hn⟩ : ∃ n, s.n = n := ⟨_, rfl⟩
            rw [hn] at c4 h1
            clear h e0 hd hd' ts hl hn h64 hf hww
            go_enter Try.func14, Try.ntmps14
            go_wp2_with fail
            refine Calls.mono BN.out ?_
            rintro e w2 ⟨rfl, k1, k2⟩
            have FF : Hid (DSt w d G (brnS s) w2) := ⟨G, k1, Nx.refl _ _, k2⟩
            clear k1 k2 BN
            go_wp2
            go_ret
            exact ⟨rfl, FF.out⟩
          · rw [(wrE_ok e0 h64 hf).1, (wrE_ok e0 h64 hf).2]
            rw [(wrE_ok e0 h64 hf).2] at hww
            rw [decide_eq_false hf] at BN
            obtain ⟨m, rfl⟩ : ∃ m : Nat, k = (m : Int) := ⟨k.toNat, by omega⟩
            rw [Int.toNat_natCast] at hww ⊢
            have HK : Hid _ := hww
            have HL : Hid (s.l.length ≤ 1000000) := hl
            have h1' : (m : Int) < (s.n : Int) := by omega
            obtain ⟨n, hn⟩ : ∃ n, s.n = n := ⟨_, rfl⟩
            rw [hn] at c4 h1'
            have g0 : ¬ (m : Int) < 0 := by omega
            clear h e0 hd hd' ts hl hn h64 hf hww h1 h0
            go_enter Try.func14, Try.ntmps14
            go_wp2_with fail
            refine Calls.mono BN.out ?_
            rintro e w2 ⟨rfl, k1, k2⟩
            clear BN
            have J : Hid (DAt w2 d G (brnS s) ∧ Bf G w w2) := ⟨k1, k2⟩
            obtain ⟨-, sg, sc, v, hG, hr⟩ := k1
            obtain ⟨va0, vc0, rfl⟩ := ownsD_slice hr.row
            have c1 : w2.cell? ⟨d, 1, none⟩ = some (.slice va0 s.l.length vc0) := hr.c1
            obtain ⟨va, vc, w3, RA, ua, uc, w4, RB, RO⟩ := wrote_d w2 _ s.l ⟨m, t.data.toList⟩ hr.row HL.out
            have FF : Hid (DSt w d G { brnS s with l := s.l ++ [⟨m, t.data.toList⟩] } (w4.setCell ⟨d, 1, none⟩ (.slice ua (s.l ++ [(⟨m, t.data.toList⟩ : Wt)]).length uc))) := by
              obtain ⟨G', g1, g2, g3⟩ := DAt.wrote (s := brnS s) (x := ⟨m, t.data.toList⟩) J.out.1 HK.out RO.out.1 RO.out.2.1 RO.out.2.2
              exact ⟨G', g1, (Nx.refl w _).trans g2 J.out.2.size, J.out.2.trans (Nx.refl _ _) g3⟩
            have c1a := cell_alloc (o := .cells #[] 68) c1
            have c5 : w4.cell? ⟨d, 1, none⟩ = some (.slice va0 s.l.length vc0) := cell_later RO.out.2.1 c1
            have f5 : w4.frozen? ⟨d, 1, none⟩ = false := (frozen_kept RO.out.2.1 (hr.lt (.inl rfl))).trans (hr.fr 1)
            have RA' : (Builtin.append_ #[47, 47] 47 #[.slice (some ⟨w2.heap.size, 0, none⟩) 0 0, .slice va0 s.l.length vc0]).run Try.prog (w2.alloc (.cells #[] 68)) = .ok (.slice va s.l.length vc) w3 := RA
            have RB' : (Builtin.append_ #[47, 47] 47 #[.slice va s.l.length vc, .slice (some ⟨w3.heap.size, 0, none⟩) 1 1]).run Try.prog (w3.alloc (.cells #[.int .i64 (m : Int), .string t] 68)) = .ok (.slice ua (s.l ++ [(⟨m, t.data.toList⟩ : Wt)]).length uc) w4 := RB
            obtain ⟨L, hL⟩ : ∃ L, s.l.length = L := ⟨_, rfl⟩
            obtain ⟨L2, hL2⟩ : ∃ L2, (s.l ++ [(⟨m, t.data.toList⟩ : Wt)]).length = L2 := ⟨_, rfl⟩
            rw [hL2] at RB' FF
            rw [hL] at RA' RB' c1a c5
            clear RO J hr k2 hG HK HL c1 RA RB hL hL2
            go_wp2_with (at_builtin; refine Go.Lib.wpList_append_run _ rfl _ _ _ _ rfl _ _ rfl rfl _ _ (by first | exact RA' | exact RB') ?_)
            go_ret
            exact ⟨rfl, FF.out⟩
        · have hsz : ¬ (t.size : Int) = 64 := by omega
          rw [(wrE_form e0 h64).1, (wrE_form e0 h64).2]
          have FF : Hid (DSt w d G s w) := h.stays (Below.refl _ _)
          obtain ⟨n, hn⟩ : ∃ n, s.n = n := ⟨_, rfl⟩
          rw [hn] at c4 h1
          clear h e0 hd hd' ts hl hn h64 hww
          go_enter Try.func14, Try.ntmps14
          go_wp2
          go_ret
          exact ⟨rfl, FF.out⟩
end Go.Proofs.Ytpcgoimkflgcnaa
