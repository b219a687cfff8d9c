/- The document's Table and Of. -/
import Derived.Test.YtecdjfafeeimfaaDeQ
import Derived.Test.YtecdjfafeeimfaaTaE
namespace Go.Proofs.Ytecdjfafeeimfaa
open Go.RowKit Go.Proofs.Fd Go.Proofs.Ta Go.Proofs.De
set_option maxRecDepth 20000

set_option maxHeartbeats 1000000 in
theorem rmay_any (m n : Int) (v : Bool) (hv : (okM m && okM n) = v) (w : World) :
    Calls Try.prog 24 #[.int .i64 m, .int .i64 n] w fun e w' => e = .returned (.bool v) ∧ w' = w := by
  subst hv
  unfold okM
  by_cases h0 : 0 ≤ m
  · by_cases h1 : m ≤ 4096
    · by_cases h2 : 0 ≤ n
      · by_cases h3 : n ≤ 4096
        · rw [decide_eq_true h0, decide_eq_true h1, decide_eq_true h2, decide_eq_true h3]
          go_enter Try.func24, Try.ntmps24
          go_wp2
          go_ret
          exact ⟨rfl, rfl⟩
        · rw [decide_eq_true h0, decide_eq_true h1, decide_eq_true h2, decide_eq_false h3]
          go_enter Try.func24, Try.ntmps24
          go_wp2
          go_ret
          exact ⟨rfl, rfl⟩
      · rw [decide_eq_true h0, decide_eq_true h1, decide_eq_false h2]
        go_enter Try.func24, Try.ntmps24
        go_wp2
        go_ret
        exact ⟨rfl, rfl⟩
    · rw [decide_eq_true h0, decide_eq_false h1]
      go_enter Try.func24, Try.ntmps24
      go_wp2
      go_ret
      exact ⟨rfl, rfl⟩
  · rw [decide_eq_false h0]
    go_enter Try.func24, Try.ntmps24
    go_wp2
    go_ret
    exact ⟨rfl, rfl⟩
theorem may_yes {m n : Int} (h : (0 ≤ m ∧ m ≤ 4096) ∧ 0 ≤ n ∧ n ≤ 4096) : (okM m && okM n) = true := by
  rw [(okM_iff m).2 h.1, (okM_iff n).2 h.2]; rfl
theorem may_not {m n : Int} (h : ¬ ((0 ≤ m ∧ m ≤ 4096) ∧ 0 ≤ n ∧ n ≤ 4096)) : (okM m && okM n) = false := by
  cases e : okM m && okM n with
  | false => rfl
  | true =>
    rw [Bool.and_eq_true, okM_iff, okM_iff] at e
    exact absurd e h
/-- A new block of one number is a row of the call's own. -/
theorem owns_one (w : World) (base : Nat) (e : TypeId) (x : Value) (hb : base ≤ w.heap.size) : (w.alloc (.cells #[x] e)).ownsRow base e 1 (.slice (some ⟨w.heap.size, 0, none⟩) 1 1) 1 [x] := by
  refine ⟨rfl, .inr ⟨w.heap.size, 1, #[x], rfl, hb, ?_, Nat.le_refl _, by unfold maxLen; omega, rfl, rfl⟩⟩
  show (w.heap.push _)[w.heap.size]? = _
  simp
set_option maxHeartbeats 1000000 in
theorem rtable_no (m n : Int) (h : ¬ ((0 ≤ m ∧ m ≤ 4096) ∧ 0 ≤ n ∧ n ≤ 4096)) (w : World) :
    Calls Try.prog 9 #[.int .i64 m, .int .i64 n] w fun e w' => TabP w [] 1 e w' := by
  have MB : Hid _ := rmay_any m n false (may_not h) w
  clear h
  go_enter Try.func9, Try.ntmps9
  go_wp2_with fail
  refine Calls.mono MB.out ?_
  rintro e w1 ⟨rfl, rfl⟩
  clear MB
  go_wp2
  go_ret2
  exact TabP.no (Below.refl _ _)
set_option maxHeartbeats 2000000 in
theorem rtable_ok (m n : Nat) (hm : m ≤ 4096) (hn : n ≤ 4096) (w : World) :
    Calls Try.prog 9 #[.int .i64 (m : Int), .int .i64 (n : Int)] w fun e w' => TabP w (tbl m (n + 1)) 0 e w' := by
  obtain ⟨i0, hi, hz0, hz1, hz2⟩ := info_parts infoInt
  have MB : Hid _ := rmay_any m n true (may_yes ⟨⟨by omega, by omega⟩, by omega, by omega⟩) w
  have z2 : IntKind.i64.wrap ((m : Int) + 1) = (m : Int) + 1 := by rw [IntKind.wrap_i64]; omega
  have z3 : ¬ (m : Int) + 1 = 0 := by omega
  go_enter Try.func9, Try.ntmps9
  go_wp2_with fail
  refine Calls.mono MB.out ?_
  rintro e w1 ⟨rfl, rfl⟩
  clear MB
  have I0 : Hid (Below w1.heap.size w1 (w1.alloc (.cells #[.int .i64 4294967296] 3)) ∧ (w1.alloc (.cells #[.int .i64 4294967296] 3)).ownsRow w1.heap.size 3 1 (.slice (some ⟨w1.heap.size, 0, none⟩) 1 1) (0 + 1) (icells (tbl m (0 + 1)))) :=
    ⟨(Below.refl _ _).alloc (Nat.le_refl _) _, owns_one w1 w1.heap.size 3 _ (Nat.le_refl _)⟩
  go_wp2
  go_loopw [6, 7] (fun sl i wr => ∃ k : Nat, k ≤ n ∧ i = .int .i64 (k : Int) ∧ Hid (Below w1.heap.size w1 wr ∧ wr.ownsRow w1.heap.size 3 1 sl (k + 1) (icells (tbl m (k + 1))))) (fun _ i _ => n - (intOf i).toNat)
  case atStart => exact ⟨0, by omega, rfl, I0.out⟩
  case round =>
    obtain ⟨k, hk, rfl, I⟩ := hrel
    clear I0
    obtain ⟨-, ⟨-, hx⟩ | ⟨g, cap, rfl, hrow, hg⟩⟩ := owns_ints I.out.2
    · exact absurd hx (Nat.succ_ne_zero _)
    by_cases hlt : k < n
    · have g1 : (k : Int) < (n : Int) := by omega
      have c0 := (hrow k (by rw [tbl_len]; omega)).1
      rw [tbl_at m (k + 1) k (by omega)] at c0
      have z5 := tb_quo m k
      have sm := tb_small m k hm
      have z4 : IntKind.i64.wrap ((tb m k : Int) * (m : Int)) = ((tb m k * m : Nat) : Int) := by rw [← Int.natCast_mul, IntKind.wrap_i64]; omega
      have HS : Hid (tbl m (k + 1 + 1) = tbl m (k + 1) ++ [(tb m (k + 1) : Int)]) := tbl_succ m (k + 1)
      obtain ⟨x, hx⟩ : ∃ x, tb m k = x := ⟨_, rfl⟩
      obtain ⟨y, hy⟩ : ∃ y, tb m (k + 1) = y := ⟨_, rfl⟩
      obtain ⟨p, hp⟩ : ∃ p, tb m k * m = p := ⟨_, rfl⟩
      rw [hp] at z4 z5
      rw [hx] at z4 c0
      rw [hy] at z5 HS
      obtain ⟨N, hN⟩ : ∃ N, k + 1 = N := ⟨_, rfl⟩
      have g2 : (k : Int) < (N : Int) := by omega
      have g3 : N ≤ 4097 := by omega
      have g4 : N ≤ n := by omega
      have z6 : IntKind.i64.wrap ((k : Int) + 1) = (N : Int) := by rw [IntKind.wrap_i64]; omega
      have MS : Hid (n - N < n - k) := (by omega : n - N < n - k)
      rw [hN] at I HS ⊢
      clear hx hy hp sm hrow hN hlt
      go_wp2_with (first
        | (at_builtin; refine wpList_append_own _ rfl _ _ 22 rfl w1.heap.size 3 i0 (.int .i64 0) 1 8 Try.underlying22 hi hz0 hz1 hz2 rfl (by decide) _ _ _ rfl (I.out.2.alloc _) ⟨wr.heap.size, 0, none⟩ 1 1 [.int .i64 (y : Int)] rfl rfl (cells_new _ _ _) (by intro u hu; simp at hu; subst hu; rfl) (by unfold maxLen; omega) (by omega) (by have := I.out.1.size; simp; omega) ?_; intro v1 w3 hown1 hgrow1 hnil1))
      have I3 : Hid (Below w1.heap.size w1 w3 ∧ w3.ownsRow w1.heap.size 3 1 v1 (N + 1) (icells (tbl m (N + 1)))) := by
        obtain ⟨i2, i3⟩ := I.out
        refine ⟨(i2.alloc i2.size _).grown hgrow1 (by have := i2.size; simp; omega) (fun x hx => (i3.lt x hx).1), ?_⟩
        rw [HS.out, icells_app]
        exact hown1
      clear I hown1 hgrow1 hnil1
      go_roundw
      case rel => exact ⟨N, g4, rfl, I3.out⟩
      case measure => simpa [intOf] using MS.out
    · obtain rfl : k = n := by omega
      have FI : Hid ((tbl m (k + 1)).length = k + 1 ∧ Row wr g (tbl m (k + 1)) ∧ w1.heap.size ≤ g ∧ Below w1.heap.size w1 wr) := ⟨tbl_len m (k + 1), hrow, hg, I.out.1⟩
      clear I hrow hg
      go_wp2
      go_ret2
      exact ⟨some ⟨g, 0, none⟩, cap, by rw [FI.out.1]; rfl, FI.out.2.1.at, New.some FI.out.2.2.1, FI.out.2.2.2⟩
set_option maxHeartbeats 2000000 in
theorem rof_any (m n u : Int) (w : World) :
    Calls Try.prog 11 #[.int .i64 m, .int .i64 n, .int .i64 u] w fun e w' => OfP w (ofV m n u) (ofE m n u) e w' := by
  by_cases h : (0 ≤ m ∧ m ≤ 4096) ∧ 0 ≤ n ∧ n ≤ 4096
  · obtain ⟨m, rfl⟩ : ∃ k : Nat, m = k := ⟨m.toNat, by omega⟩
    obtain ⟨n, rfl⟩ : ∃ k : Nat, n = k := ⟨n.toNat, by omega⟩
    have hn : n ≤ 4096 := by omega
    have TB : Hid _ := rtable_ok m n (by omega) (by omega) w
    by_cases h0 : u < 0
    · obtain ⟨e1, e2⟩ := of_no (m := m) (n := n) (u := u) (by unfold ofOk; omega)
      rw [e1, e2]
      clear e1 e2 h
      go_enter Try.func11, Try.ntmps11
      go_wp2_with fail
      refine Calls.mono TB.out ?_
      rintro e w1 ⟨a, c, rfl, -, -, hb⟩
      have FI : Hid (Below w.heap.size w w1) := hb
      clear TB hb
      go_wp2
      go_ret2
      exact ⟨rfl, FI.out⟩
    · by_cases h1 : 4294967296 ≤ u
      · obtain ⟨e1, e2⟩ := of_no (m := m) (n := n) (u := u) (by unfold ofOk; omega)
        rw [e1, e2]
        clear e1 e2 h
        go_enter Try.func11, Try.ntmps11
        go_wp2_with fail
        refine Calls.mono TB.out ?_
        rintro e w1 ⟨a, c, rfl, -, -, hb⟩
        have FI : Hid (Below w.heap.size w w1) := hb
        clear TB hb
        go_wp2
        go_ret2
        exact ⟨rfl, FI.out⟩
      · obtain ⟨v, hv⟩ : ∃ k : Nat, u = k := ⟨u.toNat, by omega⟩
        have HV : Hid (ofV m n u = (dl m n v : Int) ∧ ofE m n u = 0) := by
          rw [hv]
          exact of_ok m n v (by omega) (by omega) (by omega)
        rw [HV.out.1, HV.out.2]
        have HU : Hid (u = (v : Int)) := hv
        clear h hv HV
        go_enter Try.func11, Try.ntmps11
        go_wp2_with fail
        refine Calls.mono TB.out ?_
        rintro e w1 ⟨a, c, rfl, hi, -, hb⟩
        rw [tbl_len]
        have I1 : Hid (IntAt w1 a (tbl m (n + 1)) ∧ Below w.heap.size w w1) := ⟨hi, hb⟩
        clear TB hi hb
        obtain ⟨N, hN⟩ : ∃ N, n + 1 = N := ⟨_, rfl⟩
        rw [hN] at I1 ⊢
        go_wp2
        go_loopw [10, 11] (fun x i wr => ∃ k : Nat, k ≤ n ∧ i = .int .i64 ((k : Int) + 1) ∧ x = .int .i64 (dl m k v : Int) ∧ w1 = wr) (fun _ i _ => n + 1 - (intOf i).toNat)
        case atStart => exact ⟨0, by omega, rfl, rfl, rfl⟩
        case round =>
          obtain ⟨k, hk, rfl, rfl, hw⟩ := hrel
          subst hw
          by_cases hlt : k < n
          · obtain ⟨b, o, rfl, c0⟩ := I1.out.1 (k + 1) (by rw [tbl_len]; omega)
            rw [tbl_at m N (k + 1) (by omega)] at c0
            have z1 : IntKind.i64.wrap ((k : Int) + 1 + 1) = (k : Int) + 2 := by rw [IntKind.wrap_i64]; omega
            have g1 : (k : Int) + 1 < (N : Int) := by omega
            have dm := dl_most m k v
            have ds := dl_succ m k v
            obtain ⟨t, ht⟩ : ∃ t, tb m (k + 1) = t := ⟨_, rfl⟩
            obtain ⟨d, hd⟩ : ∃ d, dl m k v = d := ⟨_, rfl⟩
            rw [ht] at c0 ds
            rw [hd] at dm ds ⊢
            have z2 : IntKind.i64.wrap ((d : Int) + 1) = (d : Int) + 1 := by rw [IntKind.wrap_i64]; omega
            by_cases q : v < t
            · rw [if_pos q] at ds
              have q1 : u < (t : Int) := by rw [HU.out]; omega
              have DS : Hid (dl m (k + 1) v = d + 1) := ds
              clear ds hd ht q
              go_wp2
              go_roundw
              case rel => exact ⟨k + 1, by omega, by rw [show ((k + 1 : Nat) : Int) + 1 = (k : Int) + 2 by omega], by rw [DS.out]; rfl, trivial⟩
              case measure => simp [intOf]; omega
            · rw [if_neg q] at ds
              have q1 : ¬ u < (t : Int) := by rw [HU.out]; omega
              have DS : Hid (dl m (k + 1) v = d) := ds
              clear ds hd ht q
              go_wp2
              go_roundw
              case rel => exact ⟨k + 1, by omega, by rw [show ((k + 1 : Nat) : Int) + 1 = (k : Int) + 2 by omega], by rw [DS.out], trivial⟩
              case measure => simp [intOf]; omega
          · obtain rfl : k = n := by omega
            have g1 : ¬ (k : Int) + 1 < (N : Int) := by omega
            go_wp2
            go_ret2
            exact ⟨rfl, I1.out.2⟩
  · have TB : Hid _ := rtable_no m n h w
    obtain ⟨e1, e2⟩ := of_no (m := m) (n := n) (u := u) (by unfold ofOk; omega)
    rw [e1, e2]
    clear e1 e2 h
    go_enter Try.func11, Try.ntmps11
    go_wp2_with fail
    refine Calls.mono TB.out ?_
    rintro e w1 ⟨a, c, rfl, -, -, hb⟩
    have FI : Hid (Below w.heap.size w w1) := hb
    clear TB hb
    go_wp2
    go_ret2
    exact ⟨rfl, FI.out⟩
end Go.Proofs.Ytecdjfafeeimfaa
