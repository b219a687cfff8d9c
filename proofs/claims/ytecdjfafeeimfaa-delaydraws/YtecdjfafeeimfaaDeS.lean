/- A word's place in a table, searched. -/
import Derived.Test.YtecdjfafeeimfaaDeT
namespace Go.Proofs.Ytecdjfafeeimfaa
open Go.RowKit Go.Proofs.Fd Go.Proofs.Ta Go.Proofs.De
set_option maxRecDepth 20000

/-- What is known of a word's place while it is searched. -/
def Lies (m n u lo hi : Nat) : Prop := (∀ j, j < lo → u < tb m (j + 1)) ∧ (hi < n → tb m (hi + 1) ≤ u)
theorem Lies.up {m n u lo hi h : Nat} (L : Lies m n u lo hi) (e : decide (tb m (h + 1) ≤ u) = false) : Lies m n u (h + 1) hi := by
  have e' : u < tb m (h + 1) := by simpa using e
  exact ⟨fun j hj => Nat.lt_of_lt_of_le e' (tb_anti m (j + 1) (h + 1) (by omega)), L.2⟩
theorem Lies.down {m n u lo hi h : Nat} (L : Lies m n u lo hi) (e : decide (tb m (h + 1) ≤ u) = true) : Lies m n u lo h := ⟨L.1, fun _ => by simpa using e⟩
theorem Lies.is {m n u k : Nat} (L : Lies m n u k k) (hk : k ≤ n) : dl m n u = k := dl_place m n u k hk L.1 L.2
set_option maxHeartbeats 1000000 in
theorem search_any (rb ub g m n u : Nat) (hn : n ≤ 4096) (w : World) (B : Hid (Boxd w rb ub g m n u)) :
    Calls Try.prog 32 #[.int .i64 (n : Int), .func (.func 33) #[] #[.pointer (some ⟨rb, 0, none⟩), .pointer (some ⟨ub, 0, none⟩)]] w fun e w' => e = .returned (.int .i64 (dl m n u : Int)) ∧ Below w.heap.size w w' := by
  go_enter Try.func32, Try.ntmps32
  go_wp2
  go_loopw [5, 6, 7] (fun x y _ wr => ∃ lo hi : Nat, lo ≤ hi ∧ hi ≤ n ∧ x = .int .i64 (lo : Int) ∧ y = .int .i64 (hi : Int) ∧ Hid (Lies m n u lo hi ∧ Below w.heap.size w wr)) (fun x y _ _ => (intOf y).toNat - (intOf x).toNat)
  case atStart => exact ⟨0, n, by omega, by omega, rfl, rfl, ⟨fun j hj => absurd hj (Nat.not_lt_zero _), fun h => absurd h (Nat.lt_irrefl _)⟩, Below.refl _ _⟩
  case round =>
    obtain ⟨lo, hi, hlh, hin, rfl, rfl, I⟩ := hrel
    by_cases hlt : lo < hi
    · have g1 : (lo : Int) < (hi : Int) := by omega
      obtain ⟨h, hh⟩ : ∃ h, (lo + hi) / 2 = h := ⟨_, rfl⟩
      have CL : Hid _ := close_any rb ub g m n u h (by omega) hn wr (B.out.later I.out.2)
      obtain ⟨v, hv⟩ : ∃ v, decide (tb m (h + 1) ≤ u) = v := ⟨_, rfl⟩
      rw [hv] at CL
      obtain ⟨s, hs⟩ : ∃ s, lo + hi = s := ⟨_, rfl⟩
      have z1 : IntKind.i64.wrap ((lo : Int) + (hi : Int)) = (s : Int) := by rw [IntKind.wrap_i64]; omega
      have z2 : IntKind.u64.wrap (s : Int) = (s : Int) := by rw [IntKind.wrap_u64]; omega
      have z3 : (s : Int) / 2 = (h : Int) := by omega
      have z4 : IntKind.i64.wrap (h : Int) = (h : Int) := by rw [IntKind.wrap_i64]; omega
      have z5 : IntKind.u64.wrap (h : Int) = (h : Int) := by rw [IntKind.wrap_u64]; omega
      have z6 : IntKind.i64.wrap ((h : Int) + 1) = (h : Int) + 1 := by rw [IntKind.wrap_i64]; omega
      go_wp2_with fail
      refine Calls.mono CL.out ?_
      rintro e w1 ⟨rfl, hb⟩
      cases v
      · have I2 : Hid (Lies m n u (h + 1) hi ∧ Below w.heap.size w w1) := ⟨I.out.1.up hv, chain I.out.2 hb⟩
        have HQ : Hid (h + 1 ≤ hi ∧ hi - (h + 1) < hi - lo) := (by omega : h + 1 ≤ hi ∧ hi - (h + 1) < hi - lo)
        clear CL hb I hv z1 z2 z3 z4 z5 hh hs
        go_wp2
        go_roundw
        case rel => exact ⟨h + 1, hi, HQ.out.1, hin, rfl, rfl, I2.out⟩
        case measure => have := HQ.out.2; simp [intOf]; omega
      · have I2 : Hid (Lies m n u lo h ∧ Below w.heap.size w w1) := ⟨I.out.1.down hv, chain I.out.2 hb⟩
        have HQ : Hid (lo ≤ h ∧ h ≤ n ∧ h - lo < hi - lo) := (by omega : lo ≤ h ∧ h ≤ n ∧ h - lo < hi - lo)
        clear CL hb I hv z1 z2 z3 z4 z5 hh hs
        go_wp2
        go_roundw
        case rel => exact ⟨lo, h, HQ.out.1, HQ.out.2.1, rfl, rfl, I2.out⟩
        case measure => have := HQ.out.2.2; simp [intOf]; omega
    · obtain rfl : lo = hi := by omega
      have FI : Hid (dl m n u = lo ∧ Below w.heap.size w wr) := ⟨I.out.1.is hin, I.out.2⟩
      clear I
      go_wp2
      go_ret
      exact ⟨by rw [FI.out.1]; rfl, FI.out.2⟩
theorem boxd_new {w : World} {g m n N u : Nat} {t1 t2 : TypeId} (hN : n + 1 = N) (R : Row w g (tbl m (n + 1))) : Boxd ((w.alloc (.cells #[.int .i64 (u : Int)] t1)).alloc (.cells #[.slice (some ⟨g, 0, none⟩) N N] t2)) (w.heap.size + 1) w.heap.size g m n u := by
  subst hN
  refine ⟨?_, ?_, (R.later ((Below.refl _ _).alloc (Nat.le_refl _) _)).later ((Below.refl _ _).alloc (Nat.le_refl _) _)⟩
  · have := World.cell?_alloc_new (w.alloc (.cells #[.int .i64 (u : Int)] t1)) #[.slice (some ⟨g, 0, none⟩) (n + 1) (n + 1)] t2 0
    rw [show (w.alloc (.cells #[.int .i64 (u : Int)] t1)).heap.size = w.heap.size + 1 by simp] at this
    exact this
  · exact cell_alloc (by rw [World.cell?_alloc_new]; rfl)
set_option maxHeartbeats 1000000 in
theorem placeOf_any (g m n u : Nat) (hn : n ≤ 4096) (w : World) (R : Hid (Row w g (tbl m (n + 1)))) :
    Calls Try.prog 25 #[.int .i64 (u : Int), .slice (some ⟨g, 0, none⟩) (n + 1) (n + 1)] w fun e w' => e = .returned (.int .i64 (dl m n u : Int)) ∧ Below w.heap.size w w' := by
  have SR : Hid (∀ (W : World) (rb ub : Nat), Boxd W rb ub g m n u → Calls Try.prog 32 #[.int .i64 (n : Int), .func (.func 33) #[] #[.pointer (some ⟨rb, 0, none⟩), .pointer (some ⟨ub, 0, none⟩)]] W fun e w' => e = .returned (.int .i64 (dl m n u : Int)) ∧ Below W.heap.size W w') := fun W rb ub B => search_any rb ub g m n u hn W B
  obtain ⟨r, hr⟩ : ∃ r, dl m n u = r := ⟨_, rfl⟩
  rw [hr] at SR ⊢
  have z1 : IntKind.i64.wrap (((n + 1 : Nat) : Int) - 1) = (n : Int) := by rw [IntKind.wrap_i64]; omega
  obtain ⟨N, hN⟩ : ∃ N, n + 1 = N := ⟨_, rfl⟩
  rw [hN] at z1 ⊢
  have HN : Hid (n + 1 = N) := hN
  clear hr hN hn
  go_enter Try.func25, Try.ntmps25
  go_wp2_with fail
  refine Calls.mono (SR.out _ _ _ (boxd_new HN.out R.out)) ?_
  rintro e w1 ⟨rfl, hb⟩
  have FI : Hid (Below w.heap.size w w1) := chain (((Below.refl _ w).alloc (Nat.le_refl _) _).alloc (by simp) _) hb
  clear SR hb R HN z1
  go_wp2
  go_ret
  exact ⟨rfl, FI.out⟩
end Go.Proofs.Ytecdjfafeeimfaa
