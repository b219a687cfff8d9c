/- DelayCounts. -/
import Derived.Test.YtecdjfafeeimfaaDeL2
namespace Go.Proofs.Ytecdjfafeeimfaa
open Go.RowKit Go.Proofs.Fd Go.Proofs.Ta Go.Proofs.De
set_option maxRecDepth 20000

/-- r(j), and 0 behind the cap. -/
def rm (m n j : Nat) : Nat := if j ≤ n then tb m j else 0
theorem rm_fall (m n j : Nat) : rm m n (j + 1) ≤ rm m n j := by
  unfold rm
  by_cases h : j + 1 ≤ n
  · rw [if_pos h, if_pos (by omega)]
    exact tb_fall m j
  · rw [if_neg h]
    exact Nat.zero_le _
theorem rm_most (m n j : Nat) : rm m n j ≤ 4294967296 := by
  unfold rm
  by_cases h : j ≤ n
  · rw [if_pos h]; exact tb_most m j
  · rw [if_neg h]; exact Nat.zero_le _
theorem rm_in {m n j : Nat} (h : j ≤ n) : rm m n j = tb m j := if_pos h
theorem rm_out {m n j : Nat} (h : n < j) : rm m n j = 0 := if_neg (by omega)
theorem rm_first (m n : Nat) : 0 + rm m n 0 = 4294967296 := by
  rw [rm_in (Nat.zero_le n), show tb m 0 = 4294967296 from rfl, Nat.zero_add]
theorem rm_dl (m n k u : Nat) (hk : k ≤ n) (h1 : rm m n (k + 1) ≤ u) (h2 : u < rm m n k) : dl m n u = k := by
  rw [rm_in hk] at h2
  exact dl_between m n u k hk h2 (fun h => by rw [← rm_in (n := n) (show k + 1 ≤ n by omega)]; exact h1)
def Cnt (w : World) (g : Nat) (lo hi md : Int) (a : Option Addr) (L : List Int) (wr : World) : Prop := wr.cell? ⟨g, 0, none⟩ = some (.int .i64 lo) ∧ wr.cell? ⟨g, 1, none⟩ = some (.int .i64 hi) ∧ wr.cell? ⟨g, 2, none⟩ = some (.int .i64 md) ∧ IntAt wr a L ∧ Below w.heap.size w wr
theorem Cnt.later {w wr w2 : World} {g : Nat} {lo hi md : Int} {a : Option Addr} {L : List Int} (h : Cnt w g lo hi md a L wr) (hb : Below wr.heap.size wr w2) : Cnt w g lo hi md a L w2 := ⟨cell_later hb h.1, cell_later hb h.2.1, cell_later hb h.2.2.1, h.2.2.2.1.later hb, chain h.2.2.2.2 hb⟩
set_option maxHeartbeats 4000000 in
theorem DelayCounts_walk (mean most k0 : Int) (w : World) :
    Calls Try.prog 5 #[.int .i64 mean, .int .i64 most, .int .i64 k0] w fun e w' => e = .returned (.bool true) ∧ Below w.heap.size w w' := by
  obtain ⟨A, zA⟩ := u64_nat mean
  obtain ⟨B, zB⟩ := u64_nat most
  obtain ⟨C, zC⟩ := u64_nat k0
  obtain ⟨m, hm⟩ : ∃ m, A % 4097 = m := ⟨_, rfl⟩
  obtain ⟨n, hn⟩ : ∃ n, B % 4097 = n := ⟨_, rfl⟩
  have zm : (A : Int) % 4097 = (m : Int) := by omega
  have zn : (B : Int) % 4097 = (n : Int) := by omega
  have hm4 : m ≤ 4096 := by omega
  have hn4 : n ≤ 4096 := by omega
  have z1 : IntKind.u64.wrap (m : Int) = (m : Int) := by rw [IntKind.wrap_u64]; omega
  have z2 : IntKind.u64.wrap (n : Int) = (n : Int) := by rw [IntKind.wrap_u64]; omega
  have z3 : IntKind.i64.wrap (m : Int) = (m : Int) := by rw [IntKind.wrap_i64]; omega
  have z4 : IntKind.i64.wrap (n : Int) = (n : Int) := by rw [IntKind.wrap_i64]; omega
  obtain ⟨N, hN⟩ : ∃ N, n + 1 = N := ⟨_, rfl⟩
  have z5 : IntKind.i64.wrap ((n : Int) + 1) = (N : Int) := by rw [IntKind.wrap_i64]; omega
  have z6 : IntKind.u64.wrap (N : Int) = (N : Int) := by rw [IntKind.wrap_u64]; omega
  have z7 : ¬ (N : Int) = 0 := by omega
  obtain ⟨K, hK⟩ : ∃ K, C % N = K := ⟨_, rfl⟩
  have hKn : K ≤ n := by have := Nat.mod_lt C (show 0 < N by omega); omega
  have z8 : (C : Int) % (N : Int) = (K : Int) := by rw [← Int.natCast_emod, hK]
  have z9 : IntKind.u64.wrap (K : Int) = (K : Int) := by rw [IntKind.wrap_u64]; omega
  have z10 : IntKind.i64.wrap (K : Int) = (K : Int) := by rw [IntKind.wrap_i64]; omega
  have TB : Hid (∀ w : World, _) := fun w => table_ok m n hm4 hn4 w
  have OF : Hid (∀ u : Nat, u < 4294967296 → ∀ w : World, _) := fun u hu w => of_yes m n u hm4 hn4 hu w
  have HL : Hid ((tbl m (n + 1)).length = n + 1) := tbl_len m (n + 1)
  have HQ : Hid (m ≤ 4096 ∧ n ≤ 4096 ∧ n + 1 = N ∧ K ≤ n) := ⟨hm4, hn4, hN, hKn⟩
  rw [hN] at TB HL
  clear hm hn hm4 hn4 hN hK hKn
  go_enter Try.func5, Try.ntmps5
  go_wp2_with fail
  refine Calls.mono (works_any _) ?_
  rintro e w1 ⟨rfl, b1⟩
  have I1 : Hid (Below w.heap.size w w1) := b1
  clear b1
  go_wp2_with fail
  refine Calls.mono (TB.out _) ?_
  rintro e w2 ⟨a, c, rfl, i2, -, b2⟩
  rw [HL.out]
  have I2 : Hid (IntAt w2 a (tbl m N) ∧ Below w.heap.size w w2) := ⟨i2, chain I1.out b2⟩
  clear b2 i2 I1 TB HL
  obtain ⟨b, o, rfl, c0⟩ := I2.out.1 K (by rw [tbl_len]; have := HQ.out; omega)
  rw [tbl_at m N K (by have := HQ.out; omega)] at c0
  have g1 : (K : Int) < (N : Int) := by have := HQ.out; omega
  have tK := tb_most m K
  obtain ⟨t, ht⟩ : ∃ t, tb m K = t := ⟨_, rfl⟩
  rw [ht] at c0 tK
  have HT : Hid (tb m K = t ∧ t ≤ 4294967296) := ⟨ht, tK⟩
  clear ht tK
  have LF := rm_fall m n K
  have LD := rm_dl m n K
  rw [rm_in HQ.out.2.2.2, HT.out.1] at LF LD
  have HD : Hid (∀ u, rm m n (K + 1) ≤ u → u < t → dl m n u = K) := fun u h1 h2 => LD u HQ.out.2.2.2 h1 h2
  clear LD
  by_cases hk : K < n
  · obtain ⟨lo, hlo⟩ : ∃ lo, rm m n (K + 1) = lo := ⟨_, rfl⟩
    rw [hlo] at LF HD
    obtain ⟨b', o', he, c1⟩ := I2.out.1 (K + 1) (by rw [tbl_len]; have := HQ.out; omega)
    cases he
    rw [tbl_at m N (K + 1) (by have := HQ.out; omega), ← rm_in (n := n) (show K + 1 ≤ n by omega), hlo] at c1
    have g2 : (K : Int) < (n : Int) := by omega
    obtain ⟨K1, hK1⟩ : ∃ K1, K + 1 = K1 := ⟨_, rfl⟩
    have z12 : IntKind.i64.wrap ((K : Int) + 1) = (K1 : Int) := by have := HQ.out; rw [IntKind.wrap_i64]; omega
    have g3 : (K1 : Int) < (N : Int) := by have := HQ.out; omega
    rw [hK1] at c1
    clear hK1 hlo
    by_cases q : t ≤ lo
    · have z11 : IntKind.i64.wrap ((t : Int) - 1) = (t : Int) - 1 := by have := HT.out; rw [IntKind.wrap_i64]; omega
      have q1 : (t : Int) - 1 < (lo : Int) := by omega
      obtain rfl : lo = t := by omega
      have z13 : IntKind.i64.wrap (lo : Int) = (lo : Int) := by have := HT.out; rw [IntKind.wrap_i64]; omega
      clear q LF HD OF
      go_wp2
      go_quiet (fail)
      go_wp2
      go_ret
      exact ⟨rfl, chain I2.out.2 (below_drewN (Below.refl _ _) _)⟩
    · obtain ⟨h, hh⟩ : ∃ h, t = h + 1 := ⟨t - 1, by omega⟩
      have z11 : IntKind.i64.wrap ((t : Int) - 1) = (h : Int) := by have := HT.out; rw [IntKind.wrap_i64]; omega
      have q1 : ¬ (h : Int) < (lo : Int) := by omega
      have q2 : ¬ h < lo := by omega
      obtain ⟨s, hs⟩ : ∃ s, h - lo = s := ⟨_, rfl⟩
      obtain ⟨s2, hs2⟩ : ∃ s2, s / 2 = s2 := ⟨_, rfl⟩
      obtain ⟨md, hmd⟩ : ∃ md, lo + s2 = md := ⟨_, rfl⟩
      have z13 : IntKind.i64.wrap ((h : Int) - (lo : Int)) = (s : Int) := by have := HT.out; rw [IntKind.wrap_i64]; omega
      have z14 : (s : Int) / 2 = (s2 : Int) := by omega
      have z15 : IntKind.i64.wrap (s2 : Int) = (s2 : Int) := by have := HT.out; rw [IntKind.wrap_i64]; omega
      have z16 : IntKind.i64.wrap ((lo : Int) + (s2 : Int)) = (md : Int) := by have := HT.out; rw [IntKind.wrap_i64]; omega
      have OO : Hid ((∀ W : World, Calls Try.prog 10 #[.int .i64 (m : Int), .int .i64 (n : Int), .int .i64 (lo : Int)] W fun e w' => OfP W (K : Int) 0 e w') ∧ (∀ W : World, Calls Try.prog 10 #[.int .i64 (m : Int), .int .i64 (n : Int), .int .i64 (h : Int)] W fun e w' => OfP W (K : Int) 0 e w') ∧ (∀ W : World, Calls Try.prog 10 #[.int .i64 (m : Int), .int .i64 (n : Int), .int .i64 (md : Int)] W fun e w' => OfP W (K : Int) 0 e w')) := by
        have ht := HT.out.2
        have d1 := HD.out lo (by omega) (by omega)
        have d2 := HD.out h (by omega) (by omega)
        have d3 := HD.out md (by omega) (by omega)
        refine ⟨fun W => ?_, fun W => ?_, fun W => ?_⟩
        · have x := OF.out lo (by omega) W; rw [d1] at x; exact x
        · have x := OF.out h (by omega) W; rw [d2] at x; exact x
        · have x := OF.out md (by omega) W; rw [d3] at x; exact x
      clear hs hs2 hmd hh q LF HD OF
      go_wp2
      go_quiet (fail)
      go_wp2
      obtain ⟨g, hg⟩ : ∃ g, w2.heap.size = g := ⟨_, rfl⟩
      have I4 : Hid (Cnt w g (lo : Int) h md (some ⟨b, o, none⟩) (tbl m N) ((w2.drewN nq).alloc (.cells #[.int .i64 (lo : Int), .int .i64 (h : Int), .int .i64 (md : Int)] 3))) := by
        have T3 := three_at (w2.drewN nq) (.int .i64 (lo : Int)) (.int .i64 (h : Int)) (.int .i64 (md : Int)) 3
        rw [show (w2.drewN nq).heap.size = g from hg] at T3
        have B3 : Below w2.heap.size w2 ((w2.drewN nq).alloc (.cells #[.int .i64 (lo : Int), .int .i64 (h : Int), .int .i64 (md : Int)] 3)) := (below_drewN (Below.refl _ _) _).alloc (Nat.le_refl _) _
        exact ⟨T3.1, T3.2.1, T3.2.2, I2.out.1.later B3, chain I2.out.2 B3⟩
      rw [hg]
      clear I2 hg c0 z8 c1
      go_loopw [12, 13, 14, 80] (fun _ _ _ i wr => ∃ k : Nat, (k = 0 ∨ k = 1 ∨ k = 2 ∨ k = 3) ∧ i = .int .i64 (k : Int) ∧ Hid (Cnt w g (lo : Int) h md (some ⟨b, o, none⟩) (tbl m N) wr)) (fun _ _ _ i _ => 3 - (intOf i).toNat)
      case atStart => exact ⟨0, .inl rfl, rfl, I4.out⟩
      case round =>
        obtain ⟨k, hk9, rfl, I⟩ := hrel
        clear I4
        obtain ⟨d0, d1, d2, -⟩ := I.out
        rcases hk9 with rfl | rfl | rfl | rfl
        · rw [show ((0 : Nat) : Int) = 0 from rfl]
          go_wp2_with fail
          refine Calls.mono (OO.out.1 _) ?_
          rintro e w5 ⟨rfl, b5⟩
          have I5 : Hid (Cnt w g (lo : Int) h md (some ⟨b, o, none⟩) (tbl m N) w5) := I.out.later b5
          clear b5 I d0 d1 d2
          go_wp2
          go_roundw
          case rel => exact ⟨1, .inr (.inl rfl), rfl, I5.out⟩
          case measure => simp [intOf]
        · rw [show ((1 : Nat) : Int) = 1 from rfl]
          go_wp2_with fail
          refine Calls.mono (OO.out.2.1 _) ?_
          rintro e w5 ⟨rfl, b5⟩
          have I5 : Hid (Cnt w g (lo : Int) h md (some ⟨b, o, none⟩) (tbl m N) w5) := I.out.later b5
          clear b5 I d0 d1 d2
          go_wp2
          go_roundw
          case rel => exact ⟨2, .inr (.inr (.inl rfl)), rfl, I5.out⟩
          case measure => simp [intOf]
        · rw [show ((2 : Nat) : Int) = 2 from rfl]
          go_wp2_with fail
          refine Calls.mono (OO.out.2.2 _) ?_
          rintro e w5 ⟨rfl, b5⟩
          have I5 : Hid (Cnt w g (lo : Int) h md (some ⟨b, o, none⟩) (tbl m N) w5) := I.out.later b5
          clear b5 I d0 d1 d2
          go_wp2
          go_roundw
          case rel => exact ⟨3, .inr (.inr (.inr rfl)), rfl, I5.out⟩
          case measure => simp [intOf]
        · rw [show ((3 : Nat) : Int) = 3 from rfl]
          have I5 : Hid (IntAt wr (some ⟨b, o, none⟩) (tbl m N) ∧ Below w.heap.size w wr) := I.out.2.2.2
          clear d0 d1 d2 I OO
          go_wp2
          go_loopw [15, 16, 17, 101] (fun x _ _ i w6 => ∃ j s : Nat, j ≤ N ∧ i = .int .i64 (j : Int) ∧ x = .int .i64 (s : Int) ∧ Hid (s + rm m n j = 4294967296) ∧ wr = w6) (fun _ _ _ i _ => N - (intOf i).toNat)
          case atStart => exact ⟨0, 0, Nat.zero_le _, rfl, rfl, rm_first m n, rfl⟩
          case round =>
            obtain ⟨j, s9, hj, rfl, rfl, HS, hw6⟩ := hrel
            subst hw6
            by_cases hlt : j < N
            · have g5 : (j : Int) < (N : Int) := by omega
              obtain ⟨b', o', he, e0⟩ := I5.out.1 j (by rw [tbl_len]; omega)
              cases he
              rw [tbl_at m N j (by omega), ← rm_in (n := n) (show j ≤ n by have := HQ.out; omega)] at e0
              have f0 := rm_fall m n j
              have f1 := rm_most m n j
              have f2 := HS.out
              obtain ⟨x, hx⟩ : ∃ x, rm m n j = x := ⟨_, rfl⟩
              rw [hx] at e0 f0 f1 f2
              by_cases hj2 : j < n
              · have g6 : (j : Int) < (n : Int) := by omega
                obtain ⟨b', o', he, e1⟩ := I5.out.1 (j + 1) (by rw [tbl_len]; have := HQ.out; omega)
                cases he
                rw [tbl_at m N (j + 1) (by have := HQ.out; omega), ← rm_in (n := n) (show j + 1 ≤ n by omega)] at e1
                obtain ⟨y, hy⟩ : ∃ y, rm m n (j + 1) = y := ⟨_, rfl⟩
                rw [hy] at e1 f0
                obtain ⟨j1, hj1⟩ : ∃ j1, j + 1 = j1 := ⟨_, rfl⟩
                rw [hj1] at e1 hy
                have y0 : IntKind.i64.wrap ((j : Int) + 1) = (j1 : Int) := by have := HQ.out; rw [IntKind.wrap_i64]; omega
                have y1 : (j1 : Int) < (N : Int) := by have := HQ.out; omega
                have y2 : ¬ (x : Int) < (y : Int) := by omega
                obtain ⟨d, hd⟩ : ∃ d, x - y = d := ⟨_, rfl⟩
                obtain ⟨s1, hs1⟩ : ∃ s1, s9 + d = s1 := ⟨_, rfl⟩
                have y3 : IntKind.i64.wrap ((x : Int) - (y : Int)) = (d : Int) := by rw [IntKind.wrap_i64]; omega
                have y4 : IntKind.i64.wrap ((s9 : Int) + (d : Int)) = (s1 : Int) := by rw [IntKind.wrap_i64]; omega
                have R1 : Hid ((s1 + rm m n j1 = 4294967296) ∧ j1 ≤ N ∧ N - j1 < N - j) := ⟨by rw [hy]; omega, by omega, by omega⟩
                clear hx hy hj1 hd hs1 f0 f1 f2 HS hj hj2 hlt
                go_wp2
                go_roundw
                case rel => exact ⟨j1, s1, R1.out.2.1, rfl, rfl, R1.out.1, trivial⟩
                case measure => have := R1.out.2.2; simpa [intOf] using this
              · have g6 : ¬ (j : Int) < (n : Int) := by omega
                have hy : rm m n (j + 1) = 0 := rm_out (by omega)
                obtain ⟨j1, hj1⟩ : ∃ j1, j + 1 = j1 := ⟨_, rfl⟩
                rw [hj1] at hy
                have y0 : IntKind.i64.wrap ((j : Int) + 1) = (j1 : Int) := by have := HQ.out; rw [IntKind.wrap_i64]; omega
                have y2 : ¬ (x : Int) < 0 := by omega
                obtain ⟨s1, hs1⟩ : ∃ s1, s9 + x = s1 := ⟨_, rfl⟩
                have y3 : IntKind.i64.wrap (x : Int) = (x : Int) := by rw [IntKind.wrap_i64]; omega
                have y4 : IntKind.i64.wrap ((s9 : Int) + (x : Int)) = (s1 : Int) := by rw [IntKind.wrap_i64]; omega
                have R1 : Hid ((s1 + rm m n j1 = 4294967296) ∧ j1 ≤ N ∧ N - j1 < N - j) := ⟨by rw [hy]; omega, by omega, by omega⟩
                clear hx hy hj1 hs1 f0 f1 f2 HS hj hj2 hlt
                go_wp2
                go_roundw
                case rel => exact ⟨j1, s1, R1.out.2.1, rfl, rfl, R1.out.1, trivial⟩
                case measure => have := R1.out.2.2; simpa [intOf] using this
            · have g5 : ¬ (j : Int) < (N : Int) := by omega
              have y0 : (s9 : Int) = 4294967296 := by
                have f := HS.out
                rw [rm_out (by have := HQ.out; omega)] at f
                omega
              clear HS hj hlt
              go_wp2
              go_ret
              exact ⟨rfl, I5.out.2⟩
  · have hlo : rm m n (K + 1) = 0 := rm_out (by have := HQ.out; omega)
    rw [hlo] at LF HD
    have g2 : ¬ (K : Int) < (n : Int) := by omega
    clear hlo
    by_cases q : t ≤ 0
    · have z11 : IntKind.i64.wrap ((t : Int) - 1) = (t : Int) - 1 := by have := HT.out; rw [IntKind.wrap_i64]; omega
      have q1 : (t : Int) - 1 < 0 := by omega
      have q2 : (t : Int) = 0 := by omega
      clear q LF HD OF
      go_wp2
      go_quiet (fail)
      go_wp2
      go_ret
      exact ⟨rfl, chain I2.out.2 (below_drewN (Below.refl _ _) _)⟩
    · obtain ⟨h, hh⟩ : ∃ h, t = h + 1 := ⟨t - 1, by omega⟩
      have z11 : IntKind.i64.wrap ((t : Int) - 1) = (h : Int) := by have := HT.out; rw [IntKind.wrap_i64]; omega
      have q1 : ¬ (h : Int) < 0 := by omega
      obtain ⟨md, hmd⟩ : ∃ md, h / 2 = md := ⟨_, rfl⟩
      have z13 : IntKind.i64.wrap (h : Int) = (h : Int) := by have := HT.out; rw [IntKind.wrap_i64]; omega
      have z14 : (h : Int) / 2 = (md : Int) := by omega
      have z15 : IntKind.i64.wrap (md : Int) = (md : Int) := by have := HT.out; rw [IntKind.wrap_i64]; omega
      have OO : Hid ((∀ W : World, Calls Try.prog 10 #[.int .i64 (m : Int), .int .i64 (n : Int), .int .i64 0] W fun e w' => OfP W (K : Int) 0 e w') ∧ (∀ W : World, Calls Try.prog 10 #[.int .i64 (m : Int), .int .i64 (n : Int), .int .i64 (h : Int)] W fun e w' => OfP W (K : Int) 0 e w') ∧ (∀ W : World, Calls Try.prog 10 #[.int .i64 (m : Int), .int .i64 (n : Int), .int .i64 (md : Int)] W fun e w' => OfP W (K : Int) 0 e w')) := by
        have ht := HT.out.2
        have d1 := HD.out 0 (by omega) (by omega)
        have d2 := HD.out h (by omega) (by omega)
        have d3 := HD.out md (by omega) (by omega)
        refine ⟨fun W => ?_, fun W => ?_, fun W => ?_⟩
        · have x := OF.out 0 (by omega) W; rw [d1] at x; exact x
        · have x := OF.out h (by omega) W; rw [d2] at x; exact x
        · have x := OF.out md (by omega) W; rw [d3] at x; exact x
      clear hmd hh q LF HD OF
      go_wp2
      go_quiet (fail)
      go_wp2
      obtain ⟨g, hg⟩ : ∃ g, w2.heap.size = g := ⟨_, rfl⟩
      have I4 : Hid (Cnt w g 0 h md (some ⟨b, o, none⟩) (tbl m N) ((w2.drewN nq).alloc (.cells #[.int .i64 0, .int .i64 (h : Int), .int .i64 (md : Int)] 3))) := by
        have T3 := three_at (w2.drewN nq) (.int .i64 0) (.int .i64 (h : Int)) (.int .i64 (md : Int)) 3
        rw [show (w2.drewN nq).heap.size = g from hg] at T3
        have B3 : Below w2.heap.size w2 ((w2.drewN nq).alloc (.cells #[.int .i64 0, .int .i64 (h : Int), .int .i64 (md : Int)] 3)) := (below_drewN (Below.refl _ _) _).alloc (Nat.le_refl _) _
        exact ⟨T3.1, T3.2.1, T3.2.2, I2.out.1.later B3, chain I2.out.2 B3⟩
      rw [hg]
      clear I2 hg c0 z8 
      go_loopw [12, 13, 14, 80] (fun _ _ _ i wr => ∃ k : Nat, (k = 0 ∨ k = 1 ∨ k = 2 ∨ k = 3) ∧ i = .int .i64 (k : Int) ∧ Hid (Cnt w g 0 h md (some ⟨b, o, none⟩) (tbl m N) wr)) (fun _ _ _ i _ => 3 - (intOf i).toNat)
      case atStart => exact ⟨0, .inl rfl, rfl, I4.out⟩
      case round =>
        obtain ⟨k, hk9, rfl, I⟩ := hrel
        clear I4
        obtain ⟨d0, d1, d2, -⟩ := I.out
        rcases hk9 with rfl | rfl | rfl | rfl
        · rw [show ((0 : Nat) : Int) = 0 from rfl]
          go_wp2_with fail
          refine Calls.mono (OO.out.1 _) ?_
          rintro e w5 ⟨rfl, b5⟩
          have I5 : Hid (Cnt w g 0 h md (some ⟨b, o, none⟩) (tbl m N) w5) := I.out.later b5
          clear b5 I d0 d1 d2
          go_wp2
          go_roundw
          case rel => exact ⟨1, .inr (.inl rfl), rfl, I5.out⟩
          case measure => simp [intOf]
        · rw [show ((1 : Nat) : Int) = 1 from rfl]
          go_wp2_with fail
          refine Calls.mono (OO.out.2.1 _) ?_
          rintro e w5 ⟨rfl, b5⟩
          have I5 : Hid (Cnt w g 0 h md (some ⟨b, o, none⟩) (tbl m N) w5) := I.out.later b5
          clear b5 I d0 d1 d2
          go_wp2
          go_roundw
          case rel => exact ⟨2, .inr (.inr (.inl rfl)), rfl, I5.out⟩
          case measure => simp [intOf]
        · rw [show ((2 : Nat) : Int) = 2 from rfl]
          go_wp2_with fail
          refine Calls.mono (OO.out.2.2 _) ?_
          rintro e w5 ⟨rfl, b5⟩
          have I5 : Hid (Cnt w g 0 h md (some ⟨b, o, none⟩) (tbl m N) w5) := I.out.later b5
          clear b5 I d0 d1 d2
          go_wp2
          go_roundw
          case rel => exact ⟨3, .inr (.inr (.inr rfl)), rfl, I5.out⟩
          case measure => simp [intOf]
        · rw [show ((3 : Nat) : Int) = 3 from rfl]
          have I5 : Hid (IntAt wr (some ⟨b, o, none⟩) (tbl m N) ∧ Below w.heap.size w wr) := I.out.2.2.2
          clear d0 d1 d2 I OO
          go_wp2
          go_loopw [15, 16, 17, 101] (fun x _ _ i w6 => ∃ j s : Nat, j ≤ N ∧ i = .int .i64 (j : Int) ∧ x = .int .i64 (s : Int) ∧ Hid (s + rm m n j = 4294967296) ∧ wr = w6) (fun _ _ _ i _ => N - (intOf i).toNat)
          case atStart => exact ⟨0, 0, Nat.zero_le _, rfl, rfl, rm_first m n, rfl⟩
          case round =>
            obtain ⟨j, s9, hj, rfl, rfl, HS, hw6⟩ := hrel
            subst hw6
            by_cases hlt : j < N
            · have g5 : (j : Int) < (N : Int) := by omega
              obtain ⟨b', o', he, e0⟩ := I5.out.1 j (by rw [tbl_len]; omega)
              cases he
              rw [tbl_at m N j (by omega), ← rm_in (n := n) (show j ≤ n by have := HQ.out; omega)] at e0
              have f0 := rm_fall m n j
              have f1 := rm_most m n j
              have f2 := HS.out
              obtain ⟨x, hx⟩ : ∃ x, rm m n j = x := ⟨_, rfl⟩
              rw [hx] at e0 f0 f1 f2
              by_cases hj2 : j < n
              · have g6 : (j : Int) < (n : Int) := by omega
                obtain ⟨b', o', he, e1⟩ := I5.out.1 (j + 1) (by rw [tbl_len]; have := HQ.out; omega)
                cases he
                rw [tbl_at m N (j + 1) (by have := HQ.out; omega), ← rm_in (n := n) (show j + 1 ≤ n by omega)] at e1
                obtain ⟨y, hy⟩ : ∃ y, rm m n (j + 1) = y := ⟨_, rfl⟩
                rw [hy] at e1 f0
                obtain ⟨j1, hj1⟩ : ∃ j1, j + 1 = j1 := ⟨_, rfl⟩
                rw [hj1] at e1 hy
                have y0 : IntKind.i64.wrap ((j : Int) + 1) = (j1 : Int) := by have := HQ.out; rw [IntKind.wrap_i64]; omega
                have y1 : (j1 : Int) < (N : Int) := by have := HQ.out; omega
                have y2 : ¬ (x : Int) < (y : Int) := by omega
                obtain ⟨d, hd⟩ : ∃ d, x - y = d := ⟨_, rfl⟩
                obtain ⟨s1, hs1⟩ : ∃ s1, s9 + d = s1 := ⟨_, rfl⟩
                have y3 : IntKind.i64.wrap ((x : Int) - (y : Int)) = (d : Int) := by rw [IntKind.wrap_i64]; omega
                have y4 : IntKind.i64.wrap ((s9 : Int) + (d : Int)) = (s1 : Int) := by rw [IntKind.wrap_i64]; omega
                have R1 : Hid ((s1 + rm m n j1 = 4294967296) ∧ j1 ≤ N ∧ N - j1 < N - j) := ⟨by rw [hy]; omega, by omega, by omega⟩
                clear hx hy hj1 hd hs1 f0 f1 f2 HS hj hj2 hlt
                go_wp2
                go_roundw
                case rel => exact ⟨j1, s1, R1.out.2.1, rfl, rfl, R1.out.1, trivial⟩
                case measure => have := R1.out.2.2; simpa [intOf] using this
              · have g6 : ¬ (j : Int) < (n : Int) := by omega
                have hy : rm m n (j + 1) = 0 := rm_out (by omega)
                obtain ⟨j1, hj1⟩ : ∃ j1, j + 1 = j1 := ⟨_, rfl⟩
                rw [hj1] at hy
                have y0 : IntKind.i64.wrap ((j : Int) + 1) = (j1 : Int) := by have := HQ.out; rw [IntKind.wrap_i64]; omega
                have y2 : ¬ (x : Int) < 0 := by omega
                obtain ⟨s1, hs1⟩ : ∃ s1, s9 + x = s1 := ⟨_, rfl⟩
                have y3 : IntKind.i64.wrap (x : Int) = (x : Int) := by rw [IntKind.wrap_i64]; omega
                have y4 : IntKind.i64.wrap ((s9 : Int) + (x : Int)) = (s1 : Int) := by rw [IntKind.wrap_i64]; omega
                have R1 : Hid ((s1 + rm m n j1 = 4294967296) ∧ j1 ≤ N ∧ N - j1 < N - j) := ⟨by rw [hy]; omega, by omega, by omega⟩
                clear hx hy hj1 hs1 f0 f1 f2 HS hj hj2 hlt
                go_wp2
                go_roundw
                case rel => exact ⟨j1, s1, R1.out.2.1, rfl, rfl, R1.out.1, trivial⟩
                case measure => have := R1.out.2.2; simpa [intOf] using this
            · have g5 : ¬ (j : Int) < (N : Int) := by omega
              have y0 : (s9 : Int) = 4294967296 := by
                have f := HS.out
                rw [rm_out (by have := HQ.out; omega)] at f
                omega
              clear HS hj hlt
              go_wp2
              go_ret
              exact ⟨rfl, I5.out.2⟩
end Go.Proofs.Ytecdjfafeeimfaa
