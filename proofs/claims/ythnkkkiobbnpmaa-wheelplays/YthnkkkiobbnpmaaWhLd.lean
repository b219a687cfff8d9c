/- WheelCancels. -/
import Derived.Test.YthnkkkiobbnpmaaWhW
import Derived.Test.YthnkkkiobbnpmaaWhH
namespace Go.Proofs.Ythnkkkiobbnpmaa
open Go.RowKit Go.Proofs.Fd Go.Proofs.Wh
set_option maxRecDepth 20000

theorem among_is (x : Int) (N : Nat) (h0 : 0 < N) (h1 : N ≤ 1000) :
    ∃ m : Nat, m < N ∧ ∀ w, Calls Try.prog 11 #[.int .i64 x, .int .i64 (N : Int)] w fun e w' => e = .returned (.int .i64 (m : Int)) ∧ w' = w := by
  have hN : (0 : Int) < (N : Int) := by omega
  have r1 := Int.tmod_lt_of_pos x hN
  have r2 := Int.lt_tmod_of_pos x hN
  obtain ⟨r, hr⟩ : ∃ r, Int.tmod x (N : Int) = r := ⟨_, rfl⟩
  rw [hr] at r1 r2
  have s1 := Int.tmod_lt_of_pos (r + (N : Int)) hN
  have s2 := Int.tmod_nonneg (N : Int) (show 0 ≤ r + (N : Int) by omega)
  obtain ⟨m, hm⟩ : ∃ m : Nat, Int.tmod (r + (N : Int)) (N : Int) = (m : Int) := ⟨(Int.tmod (r + (N : Int)) (N : Int)).toNat, by omega⟩
  rw [hm] at s1
  have z1 : IntKind.i64.wrap (Int.tmod x (N : Int)) = r := by rw [hr, IntKind.wrap_i64]; omega
  have z2 : IntKind.i64.wrap (r + (N : Int)) = r + (N : Int) := by rw [IntKind.wrap_i64]; omega
  have z3 : IntKind.i64.wrap (Int.tmod (r + (N : Int)) (N : Int)) = (m : Int) := by rw [hm, IntKind.wrap_i64]; omega
  have hN2 : ¬ (N : Int) = 0 := by omega
  refine ⟨m, by omega, fun w => ?_⟩
  clear r1 r2 s1 s2 h0 h1 hN
  go_enter Try.func11, Try.ntmps11
  go_wp2
  go_ret
  exact ⟨rfl, rfl⟩
def f10 (L : List Int) (i : Nat) : Nat := ud 100000 (L.getD i 0)
theorem f10_ok (L : List Int) : ∀ i, 1 ≤ f10 L i ∧ f10 L i ≤ maxT := fun i => by
  have := ud_le 100000 (by decide) (L.getD i 0)
  unfold f10 maxT
  omega
theorem f10_le (L : List Int) (i : Nat) : f10 L i ≤ 100000 := (ud_le 100000 (by decide) _).2
theorem f10_form (L : List Int) (k : Nat) (hk : k < L.length) : wrap64 (1 + wrap64 ((IntKind.u64.wrap L[k]).tmod 100000)) = (f10 L k : Int) := by
  have := ud_form 100000 (by decide) (by decide) L[k]
  unfold f10
  rw [List.getD_eq_getElem?_getD, List.getElem?_eq_getElem hk]
  exact this
/-- What both tell in the end. -/
theorem tell_same (L : List Int) (z k : Nat) (hk : k ≤ 100) (hz : z < k) :
    advE (canS (pk (f10 L) k) ((z + 1 : Nat) : Int)) (100000 : Nat) = 0 ∧ advE (qk (f10 L) z k) (100000 : Nat) = 0 ∧ advV (qk (f10 L) z k) (100000 : Nat) = advV (canS (pk (f10 L) k) ((z + 1 : Nat) : Int)) (100000 : Nat) ∧ (advV (canS (pk (f10 L) k) ((z + 1 : Nat) : Int)) (100000 : Nat)).length + 1 = k := by
  have PK := pk_is (f10_ok L) k (by unfold maxI; omega)
  have QK := qk_is (f10_ok L) z k (by unfold maxI; omega)
  have m1 : (100000 : Nat) ≤ maxT := by decide
  have n1 : (canS (pk (f10 L) k) ((z + 1 : Nat) : Int)).now ≤ 100000 := by show (pk (f10 L) k).now ≤ _; rw [PK.now]; omega
  have n2 : (qk (f10 L) z k).now ≤ 100000 := by rw [QK.now]; omega
  have a1 : ∀ t ∈ (canS (pk (f10 L) k) ((z + 1 : Nat) : Int)).l, t.a ≤ 100000 := fun t ht => by
    obtain ⟨i, -, rfl⟩ := PK.mem t (List.mem_filter.1 ht).1
    exact f10_le L i
  have a2 : ∀ t ∈ (qk (f10 L) z k).l, t.a ≤ 100000 := fun t ht => by
    have h1 : key t ∈ (qk (f10 L) z k).l.map key := List.mem_map.2 ⟨t, ht, rfl⟩
    rw [QK.same] at h1
    obtain ⟨u, hu, e⟩ := List.mem_map.1 h1
    have := a1 u hu
    have e1 : u.a = t.a := congrArg Prod.fst e
    omega
  refine ⟨advE_ok n1 m1, advE_ok n2 m1, ?_, ?_⟩
  · rw [advV_ok n1 m1, advV_ok n2 m1, (due_full a1).1, (due_full a2).1]
    have := congrArg (List.map Prod.snd) QK.same
    rw [List.map_map, List.map_map] at this
    exact this
  · rw [advV_ok n1 m1, (due_full a1).1, List.length_map]
    have := strike_length PK.ok.apart (PK.all z hz)
    rw [PK.len] at this
    exact this
set_option maxHeartbeats 8000000 in
theorem WheelCancels_walk (a : Option Addr) (L : List Int) (len cap : Nat) (hn : L.length = len) (x : Int) (w : World) (h : Hid (IntAt w a L)) :
    Calls Try.prog 5 #[.slice a len cap, .int .i64 x] w fun e w' => e = .returned (.bool true) ∧ Below w.heap.size w w' := by
  have HN : Hid (L.length = len) := hn
  clear hn
  go_enter Try.func5, Try.ntmps5
  go_wp2_with fail
  refine Calls.mono (newL w w (Below.refl _ _)) ?_
  rintro e w1 ⟨p, F, rfl, h1, h2, h3⟩
  have I1 : Hid (Wl w w1 p F St.init) := h1
  clear h1 h2 h3
  go_wp2_with fail
  refine Calls.mono (newL w w1 I1.out.below) ?_
  rintro e w2 ⟨q, G, rfl, h1, h2, h3⟩
  have I2 : Hid (TwoW w w2 p q F G St.init St.init) := ⟨I1.out.later h3, h1, fun g hF hG => by
    have := h2 g hG
    have := I1.out.at_.lt hF
    omega⟩
  clear h1 h2 h3 I1
  have WK : Hid _ := works_any w2
  go_wp2_with fail
  refine Calls.mono WK.out ?_
  rintro e w3 ⟨rfl, hb3⟩
  have I3 : Hid (TwoW w w3 p q F G St.init St.init) := I2.out.later hb3
  clear I2 hb3 WK
  by_cases hl0 : len = 0
  · have g0 : ((len : Int) == 0) = true := by rw [beq_iff_eq]; omega
    clear hl0
    go_wp2
    go_ret
    exact ⟨rfl, I3.out.fst.below⟩
  · have g0 : ((len : Int) == 0) = false := by rw [beq_eq_false_iff_ne]; omega
    by_cases hl1 : 100 < len
    · have g1 : (100 : Int) < (len : Int) := by omega
      go_wp2
      go_ret
      exact ⟨rfl, I3.out.fst.below⟩
    · have g1 : ¬ (100 : Int) < (len : Int) := by omega
      obtain ⟨z, hz, AM'⟩ := among_is x len (by omega) (by omega)
      have AM : Hid _ := AM'
      clear AM'
      go_wp2_with (go_at_call 11; refine Calls.mono (AM.out _) ?_; rintro e w4 ⟨rfl, rfl⟩)
      have I0 : Hid (TwoW w w4 p q F G (pk (f10 L) 0) (qk (f10 L) z 0)) := I3.out
      clear I3 AM g0
      go_loopw [8, 45] (fun m i wr => ∃ (k : Nat) (F G : Nat → Prop), k ≤ len ∧ i = .int .i64 (k : Int) ∧ m = .int .i64 (if z < k then (z : Int) + 1 else 0) ∧ Hid (TwoW w wr p q F G (pk (f10 L) k) (qk (f10 L) z k))) (fun m i wr => len - (intOf i).toNat)
      case atStart => exact ⟨0, F, G, by omega, rfl, by rw [if_neg (by omega)], I0.out⟩
      case round =>
        obtain ⟨k, F, G, hk, rfl, rfl, I⟩ := hrel
        clear I0
        by_cases hlt : k < len
        · have g2 : (k : Int) < (len : Int) := by omega
          have hkl : k < L.length := by have := HN.out; omega
          obtain ⟨b, o, rfl, c0⟩ := (h.out.later I.out.fst.below) k hkl
          have zf := f10_form L k hkl
          obtain ⟨y, hy⟩ : ∃ y, L[k] = y := ⟨_, rfl⟩
          rw [hy] at c0 zf
          have hkI : k < maxI := by unfold maxI; omega
          have PK := pk_is (f10_ok L) k (Nat.le_of_lt hkI)
          have QK := qk_is (f10_ok L) z k (Nat.le_of_lt hkI)
          have P := putL w wr p F (pk (f10 L) k) (f10 L k : Int) (k : Int) ⟨by omega, by omega⟩ (by rw [PK.many]; omega) I.out.fst
          rw [pk_putE (f10_ok L) hkI, pk_putV (f10_ok L) hkI] at P
          have PP : Hid _ := P
          have QQ : Hid (∀ (W : World) (G : Nat → Prop), Wl w W q G (qk (f10 L) z k) → Calls Try.prog 12 #[.pointer (some ⟨q, 0, none⟩), .int .i64 (f10 L k : Int), .int .i64 (k : Int)] W fun e w' => e = .returned (.tuple #[.int .i64 (putV (qk (f10 L) z k) (f10 L k : Int)), .int .i64 0]) ∧ ∃ F', Wl w w' q F' (putS (qk (f10 L) z k) (f10 L k : Int) k) ∧ Nx W G F' ∧ Bf G W w') := fun W G hW => by
            have P := putL w W q G (qk (f10 L) z k) (f10 L k : Int) (k : Int) ⟨by omega, by omega⟩ (by have := QK.many; omega) hW
            rw [qk_putE (f10_ok L) z hkI] at P
            exact P
          clear P PK QK hy
          by_cases hkz : k = z
          · have x1 : ((k : Int) == (z : Int)) = true := by rw [beq_iff_eq]; omega
            have eq : Hid (qk (f10 L) z (k + 1) = qk (f10 L) z k) := by show (if k = z then _ else _) = _; rw [if_pos hkz]
            have en : Hid ((if z < k + 1 then (z : Int) + 1 else 0) = ((k + 1 : Nat) : Int)) := by show _ = _; rw [if_pos (by omega)]; omega
            clear hkz
            obtain ⟨num, hnum⟩ : ∃ num : Int, (if z < k then (z : Int) + 1 else 0) = num := ⟨_, rfl⟩
            rw [hnum]
            clear hnum
            go_wp2_with fail
            refine Calls.mono PP.out ?_
            rintro e w5 ⟨rfl, F', h1, h2, h3⟩
            have J : Hid (TwoW w w5 p q F' G (pk (f10 L) (k + 1)) (qk (f10 L) z (k + 1))) := by
              rw [eq.out]
              exact I.out.one h1 h2 h3
            clear h1 h2 h3 PP QQ zf I
            go_wp2
            go_roundw
            case rel => exact ⟨k + 1, F', G, by omega, by go_num, by rw [en.out]; first | rfl | (congr 1; omega), J.out⟩
            case measure => simp [intOf]; omega
          · have x1 : ((k : Int) == (z : Int)) = false := by rw [beq_eq_false_iff_ne]; omega
            have eq : Hid (qk (f10 L) z (k + 1) = putS (qk (f10 L) z k) (f10 L k : Int) k) := by show (if k = z then _ else _) = _; rw [if_neg hkz]
            have en : Hid ((if z < k + 1 then (z : Int) + 1 else 0) = (if z < k then (z : Int) + 1 else 0)) := by
              show _ = _
              by_cases c : z < k
              · rw [if_pos c, if_pos (by omega)]
              · rw [if_neg c, if_neg (by omega)]
            clear hkz
            obtain ⟨num, hnum⟩ : ∃ num : Int, (if z < k then (z : Int) + 1 else 0) = num := ⟨_, rfl⟩
            rw [hnum] at en ⊢
            clear hnum
            go_wp2_with fail
            refine Calls.mono PP.out ?_
            rintro e w5 ⟨rfl, F', h1, h2, h3⟩
            have J5 : Hid (TwoW w w5 p q F' G (pk (f10 L) (k + 1)) (qk (f10 L) z k)) := I.out.one h1 h2 h3
            clear h1 h2 h3 PP I
            go_wp2_with fail
            refine Calls.mono (QQ.out _ _ J5.out.snd) ?_
            rintro e w6 ⟨rfl, G', h1, h2, h3⟩
            have J : Hid (TwoW w w6 p q F' G' (pk (f10 L) (k + 1)) (qk (f10 L) z (k + 1))) := by
              rw [eq.out]
              exact J5.out.two h1 h2 h3
            clear h1 h2 h3 QQ zf J5
            go_wp2
            go_roundw
            case rel => exact ⟨k + 1, F', G', by omega, by go_num, by rw [en.out], J.out⟩
            case measure => simp [intOf]; omega
        · obtain rfl : k = len := by omega
          have g2 : ¬ (k : Int) < (k : Int) := by omega
          rw [if_pos hz]
          have PK := pk_is (f10_ok L) k (by unfold maxI; omega)
          have QK := qk_is (f10_ok L) z k (by unfold maxI; omega)
          obtain ⟨t1, t2, t3, t4⟩ := tell_same L z k (by omega) hz
          have zc : ((z + 1 : Nat) : Int) = (z : Int) + 1 := by omega
          have C1 := canL w wr p F (pk (f10 L) k) ((z + 1 : Nat) : Int) ⟨by omega, by omega⟩ (by rw [PK.many]; omega) I.out.fst
          rw [pk_can (f10_ok L) (by unfold maxI; omega) hz] at C1
          obtain ⟨s1, hs1⟩ : ∃ s1, canS (pk (f10 L) k) ((z + 1 : Nat) : Int) = s1 := ⟨_, rfl⟩
          have ct := can_twice (pk (f10 L) k) ((z + 1 : Nat) : Int)
          have m1 : s1.many < 1099511627776 := by rw [← hs1]; show (pk (f10 L) k).many < _; rw [PK.many]; omega
          have m2 : (qk (f10 L) z k).many < 1099511627776 := by have := QK.many; omega
          rw [hs1] at C1 t1 t3 t4 ct
          obtain ⟨s2, hs2⟩ : ∃ s2, qk (f10 L) z k = s2 := ⟨_, rfl⟩
          rw [hs2] at t2 t3 m2 I
          have CC1 : Hid _ := C1
          have C2 : Hid (∀ (W : World) (F : Nat → Prop), Wl w W p F s1 → Calls Try.prog 14 #[.pointer (some ⟨p, 0, none⟩), .int .i64 ((z : Int) + 1)] W fun e w' => e = .returned (.int .i64 5) ∧ ∃ F', Wl w w' p F' s1 ∧ Nx W F F' ∧ Bf F W w') := fun W F hW => by
            have := canL w W p F s1 ((z + 1 : Nat) : Int) ⟨by omega, by omega⟩ m1 hW
            rw [ct.1, ct.2, zc] at this
            exact this
          rw [zc] at CC1
          have A1 : Hid (∀ (W : World) (F : Nat → Prop), Wl w W p F s1 → Calls Try.prog 16 #[.pointer (some ⟨p, 0, none⟩), .int .i64 100000] W fun e w' => ∃ F' va vn vc, e = .returned (.tuple #[.slice va vn vc, .int .i64 0]) ∧ Wl w w' p F' (advS s1 (100000 : Nat)) ∧ Nx W F F' ∧ Bf F W w' ∧ OwnsI w' (.slice va vn vc) (advV s1 (100000 : Nat)) ∧ ∀ g, (Value.slice va vn vc).ownBlock = some g → ¬ F' g ∧ W.heap.size ≤ g) := fun W F hW => by
            have := advL w W p F s1 ((100000 : Nat) : Int) m1 hW
            rw [t1] at this
            exact this
          have A2 : Hid (∀ (W : World) (G : Nat → Prop), Wl w W q G s2 → Calls Try.prog 16 #[.pointer (some ⟨q, 0, none⟩), .int .i64 100000] W fun e w' => ∃ F' va vn vc, e = .returned (.tuple #[.slice va vn vc, .int .i64 0]) ∧ Wl w w' q F' (advS s2 (100000 : Nat)) ∧ Nx W G F' ∧ Bf G W w' ∧ OwnsI w' (.slice va vn vc) (advV s1 (100000 : Nat)) ∧ ∀ g, (Value.slice va vn vc).ownBlock = some g → ¬ F' g ∧ W.heap.size ≤ g) := fun W G hW => by
            have := advL w W q G s2 ((100000 : Nat) : Int) m2 hW
            rw [t2, t3] at this
            exact this
          have T4 : Hid ((advV s1 (100000 : Nat)).length + 1 = k) := t4
          have II : Hid _ := I.out
          clear C1 hs1 hs2 PK QK t1 t2 t3 t4 ct m1 m2 I zc
          go_wp2_with fail
          refine Calls.mono CC1.out ?_
          rintro e w5 ⟨rfl, F5, h1, h2, h3⟩
          have J5 : Hid (TwoW w w5 p q F5 G s1 s2) := TwoW.one II.out h1 h2 h3
          clear h1 h2 h3 CC1 II
          go_wp2_with fail
          refine Calls.mono (C2.out _ _ J5.out.fst) ?_
          rintro e w6 ⟨rfl, F6, h1, h2, h3⟩
          have J6 : Hid (TwoW w w6 p q F6 G s1 s2) := J5.out.one h1 h2 h3
          clear h1 h2 h3 C2 J5
          go_wp2_with fail
          refine Calls.mono (A1.out _ _ J6.out.fst) ?_
          rintro e w7 ⟨F7, va, vn, vc, rfl, h1, h2, h3, h4, h5⟩
          have J7 : Hid (TwoW w w7 p q F7 G (advS s1 (100000 : Nat)) s2 ∧ OwnsI w7 (.slice va vn vc) (advV s1 (100000 : Nat)) ∧ ∀ g, (Value.slice va vn vc).ownBlock = some g → ¬ G g) := ⟨J6.out.one h1 h2 h3, h4, fun g e c => by
            have := (h5 g e).2
            have := J6.out.snd.at_.lt c
            omega⟩
          clear h1 h2 h3 h4 h5 A1 J6
          go_wp2_with fail
          refine Calls.mono (A2.out _ _ J7.out.1.snd) ?_
          rintro e w8 ⟨G8, ua, un, uc, rfl, h1, h2, h3, h4, h5⟩
          have o1 := J7.out.2.1.kept h3 J7.out.2.2
          obtain ⟨i1, e1⟩ := owns_int o1
          obtain ⟨i2, e2⟩ := owns_int h4
          obtain rfl : vn = un := by rw [← e1, e2]
          have SM : Hid _ := same_ints va ua _ vn vc uc e1 (by have := T4.out; omega) w8 i1 i2
          have B8 : Hid (Below w.heap.size w w8) := h1.below
          have EN : Hid (vn + 1 = k) := by have := T4.out; show vn + 1 = k; omega
          have zk : wrap64 ((k : Int) - 1) = (vn : Int) := by have := EN.out; unfold wrap64; omega
          clear h1 h2 h3 h4 h5 A2 J7 o1 i1 i2 e1 T4
          go_wp2_with fail
          refine Calls.mono SM.out ?_
          rintro e w9 ⟨rfl, hb9⟩
          have B9 : Hid (Below w.heap.size w w9) := chain B8.out hb9
          clear hb9 SM B8
          have xk : ((vn : Int) == (k : Int) - 1) = true := by have := EN.out; rw [beq_iff_eq]; omega
          go_wp2
          go_ret
          refine ⟨?_, B9.out⟩
          first | rfl | (show Ending.returned (.bool ((vn : Int) == (k : Int) - 1)) = _; rw [xk])
end Go.Proofs.Ythnkkkiobbnpmaa
