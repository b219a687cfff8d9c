/- The program's Check. -/
import Derived.Test.YtbaajpefefedbaaMlF
namespace Go.Proofs.Ytbaajpefefedbaa
open Go.RowKit Go.Proofs.Fd Go.Proofs.Ml
set_option maxRecDepth 20000

theorem okB_1 {u q : Int} {t g : ByteArray} {ss : List Sl} {is : List ByteArray} : okB ⟨1, u, q, t, g, ss, is⟩ = (decide (u = 0) && decide (q = 0) && smB t g ss.length is.length 504 0 0 0) := rfl
theorem okB_2 {u q : Int} {t g : ByteArray} {ss : List Sl} {is : List ByteArray} : okB ⟨2, u, q, t, g, ss, is⟩ = (nmB u q && smB t g ss.length is.length 0 32 0 0) := rfl
theorem okB_3 {u q : Int} {t g : ByteArray} {ss : List Sl} {is : List ByteArray} : okB ⟨3, u, q, t, g, ss, is⟩ = (nmB u q && smB t g ss.length is.length 0 0 4 0 && slB ss false) := rfl
theorem okB_4 {u q : Int} {t g : ByteArray} {ss : List Sl} {is : List ByteArray} : okB ⟨4, u, q, t, g, ss, is⟩ = (nmB u q && smB t g ss.length is.length 0 32 0 4 && idsB is) := rfl
theorem okB_5 {k u q : Int} {t g : ByteArray} {ss : List Sl} {is : List ByteArray} (h1 : ¬ k = 1) (h2 : ¬ k = 2) (h3 : ¬ k = 3) (h4 : ¬ k = 4) : okB ⟨k, u, q, t, g, ss, is⟩ = false := by
  unfold okB; simp only; rw [if_neg h1, if_neg h2, if_neg h3, if_neg h4]
set_option maxHeartbeats 2000000 in
theorem mayBe_any (k u q : Int) (t g : ByteArray) (a : Option Addr) (n c : Nat) (a2 : Option Addr) (n2 c2 : Nat) (ss : List Sl) (is : List ByteArray) (w : World) (L : Hid (Lists w a n c a2 n2 c2 ss is)) :
    Calls Try.prog 29 #[mv k u q t g a n c a2 n2 c2] w fun e w' => e = .returned (.bool (okB ⟨k, u, q, t, g, ss, is⟩)) ∧ Below w.heap.size w w' := by
  obtain ⟨A, hA⟩ : ∃ A : Obj, .cells #[.int .i64 k, .int .i64 u, .int .i64 q, .string t, .string g, .slice a n c, .slice a2 n2 c2] 25 = A := ⟨_, rfl⟩
  have B0 : Hid (Below w.heap.size w (w.alloc A) ∧ MlAt (w.alloc A) w.heap.size k u q t g a n c a2 n2 c2 ∧ Lists (w.alloc A) a n c a2 n2 c2 ss is) := by
    have hb : Below w.heap.size w (w.alloc A) := (Below.refl _ _).alloc (Nat.le_refl _) _
    exact ⟨hb, hA ▸ MlAt.new w _ _ _ _ _ _ _ _ _ _ _ _, L.out.later hb⟩
  subst hA
  have NB := numbered_any k u q t g a n c a2 n2 c2
  have ln : Hid (ss.length = n ∧ is.length = n2) := ⟨L.out.ls, L.out.li⟩
  have mm : n ≤ 9223372036854775807 ∧ n2 ≤ 9223372036854775807 := ⟨L.out.ms, L.out.mi⟩
  by_cases h1 : k = 1
  · subst h1
    rw [okB_1, ln.out.1, ln.out.2]
    have SZ := sized_any 504 0 0 0 1 u q t g a n c a2 n2 c2
    obtain ⟨d2, hd2⟩ : ∃ d, smB t g n n2 504 0 0 0 = d := ⟨_, rfl⟩
    rw [hd2] at SZ ⊢
    clear NB
    by_cases u0 : u = 0
    rotate_left
    · rw [decide_eq_false u0]
      go_enter Try.func29, Try.ntmps29
      go_wp2
      go_ret
      exact ⟨rfl, B0.out.1⟩
    subst u0
    by_cases q0 : q = 0
    rotate_left
    · rw [decide_eq_false q0]
      go_enter Try.func29, Try.ntmps29
      go_wp2
      go_ret
      exact ⟨rfl, B0.out.1⟩
    subst q0
    go_enter Try.func29, Try.ntmps29
    go_wp2_with fail
    refine Calls.mono (SZ _) ?_
    rintro e w1 ⟨rfl, hb1⟩
    have B1 : Hid (Below w.heap.size w w1) := chain B0.out.1 hb1
    clear hb1 SZ B0
    go_wp2
    go_ret
    exact ⟨by simp, B1.out⟩
  by_cases h2 : k = 2
  · subst h2
    rw [okB_2, ln.out.1, ln.out.2]
    have SZ := sized_any 0 32 0 0 2 u q t g a n c a2 n2 c2
    obtain ⟨d2, hd2⟩ : ∃ d, smB t g n n2 0 32 0 0 = d := ⟨_, rfl⟩
    rw [hd2] at SZ ⊢
    obtain ⟨d1, hd1⟩ : ∃ d, nmB u q = d := ⟨_, rfl⟩
    rw [hd1] at NB ⊢
    clear hd1 hd2
    go_enter Try.func29, Try.ntmps29
    go_wp2_with fail
    refine Calls.mono (NB _) ?_
    rintro e w1 ⟨rfl, hb1⟩
    have B1 : Hid (Below w.heap.size w w1 ∧ MlAt w1 w.heap.size 2 u q t g a n c a2 n2 c2 ∧ Lists w1 a n c a2 n2 c2 ss is) := ⟨chain B0.out.1 hb1, B0.out.2.1.later hb1, B0.out.2.2.later hb1⟩
    clear hb1 NB B0
    cases d1 with
    | false =>
      go_wp2
      go_ret
      exact ⟨rfl, B1.out.1⟩
    | true =>
      obtain ⟨-, c0, c1, c2', c3, c4, c5, c6⟩ := B1.out.2.1
      go_wp2_with fail
      refine Calls.mono (SZ _) ?_
      rintro e w2 ⟨rfl, hb2⟩
      have B2 : Hid (Below w.heap.size w w2 ∧ MlAt w2 w.heap.size 2 u q t g a n c a2 n2 c2 ∧ Lists w2 a n c a2 n2 c2 ss is) := ⟨chain B1.out.1 hb2, B1.out.2.1.later hb2, B1.out.2.2.later hb2⟩
      clear hb2 SZ B1 c0 c1 c2' c3 c4 c5 c6
      go_wp2
      go_ret
      exact ⟨by simp, B2.out.1⟩
  by_cases h3 : k = 3
  · subst h3
    rw [okB_3, ln.out.1, ln.out.2]
    have SZ := sized_any 0 0 4 0 3 u q t g a n c a2 n2 c2
    obtain ⟨d2, hd2⟩ : ∃ d, smB t g n n2 0 0 4 0 = d := ⟨_, rfl⟩
    rw [hd2] at SZ ⊢
    obtain ⟨d1, hd1⟩ : ∃ d, nmB u q = d := ⟨_, rfl⟩
    rw [hd1] at NB ⊢
    clear hd1 hd2
    obtain ⟨d3, hd3⟩ : ∃ d, slB ss false = d := ⟨_, rfl⟩
    have T3 := fun w hh => areSlots_any a ss n c ln.out.1 mm.1 w hh
    rw [hd3] at T3 ⊢
    clear hd3
    go_enter Try.func29, Try.ntmps29
    go_wp2_with fail
    refine Calls.mono (NB _) ?_
    rintro e w1 ⟨rfl, hb1⟩
    have B1 : Hid (Below w.heap.size w w1 ∧ MlAt w1 w.heap.size 3 u q t g a n c a2 n2 c2 ∧ Lists w1 a n c a2 n2 c2 ss is) := ⟨chain B0.out.1 hb1, B0.out.2.1.later hb1, B0.out.2.2.later hb1⟩
    clear hb1 NB B0
    cases d1 with
    | false =>
      go_wp2
      go_ret
      exact ⟨rfl, B1.out.1⟩
    | true =>
      obtain ⟨-, c0, c1, c2', c3, c4, c5, c6⟩ := B1.out.2.1
      go_wp2_with fail
      refine Calls.mono (SZ _) ?_
      rintro e w2 ⟨rfl, hb2⟩
      have B2 : Hid (Below w.heap.size w w2 ∧ MlAt w2 w.heap.size 3 u q t g a n c a2 n2 c2 ∧ Lists w2 a n c a2 n2 c2 ss is) := ⟨chain B1.out.1 hb2, B1.out.2.1.later hb2, B1.out.2.2.later hb2⟩
      clear hb2 SZ B1 c0 c1 c2' c3 c4 c5 c6
      obtain ⟨-, c0, c1, c2', c3, c4, c5, c6⟩ := B2.out.2.1
      cases d2 with
      | false =>
        go_wp2
        go_ret
        exact ⟨rfl, B2.out.1⟩
      | true =>
        go_wp2_with fail
        refine Calls.mono (T3 _ B2.out.2.2.s) ?_
        rintro e w3 ⟨rfl, hb3⟩
        have B3 : Hid (Below w.heap.size w w3) := chain B2.out.1 hb3
        clear hb3 T3 B2 c0 c1 c2' c3 c4 c5 c6
        go_wp2
        go_ret
        exact ⟨by simp, B3.out⟩
  by_cases h4 : k = 4
  · subst h4
    rw [okB_4, ln.out.1, ln.out.2]
    have SZ := sized_any 0 32 0 4 4 u q t g a n c a2 n2 c2
    obtain ⟨d2, hd2⟩ : ∃ d, smB t g n n2 0 32 0 4 = d := ⟨_, rfl⟩
    rw [hd2] at SZ ⊢
    obtain ⟨d1, hd1⟩ : ∃ d, nmB u q = d := ⟨_, rfl⟩
    rw [hd1] at NB ⊢
    clear hd1 hd2
    obtain ⟨d3, hd3⟩ : ∃ d, idsB is = d := ⟨_, rfl⟩
    have T3 := fun w hh => areIds_any a2 is n2 c2 ln.out.2 mm.2 w hh
    rw [hd3] at T3 ⊢
    clear hd3
    go_enter Try.func29, Try.ntmps29
    go_wp2_with fail
    refine Calls.mono (NB _) ?_
    rintro e w1 ⟨rfl, hb1⟩
    have B1 : Hid (Below w.heap.size w w1 ∧ MlAt w1 w.heap.size 4 u q t g a n c a2 n2 c2 ∧ Lists w1 a n c a2 n2 c2 ss is) := ⟨chain B0.out.1 hb1, B0.out.2.1.later hb1, B0.out.2.2.later hb1⟩
    clear hb1 NB B0
    cases d1 with
    | false =>
      go_wp2
      go_ret
      exact ⟨rfl, B1.out.1⟩
    | true =>
      obtain ⟨-, c0, c1, c2', c3, c4, c5, c6⟩ := B1.out.2.1
      go_wp2_with fail
      refine Calls.mono (SZ _) ?_
      rintro e w2 ⟨rfl, hb2⟩
      have B2 : Hid (Below w.heap.size w w2 ∧ MlAt w2 w.heap.size 4 u q t g a n c a2 n2 c2 ∧ Lists w2 a n c a2 n2 c2 ss is) := ⟨chain B1.out.1 hb2, B1.out.2.1.later hb2, B1.out.2.2.later hb2⟩
      clear hb2 SZ B1 c0 c1 c2' c3 c4 c5 c6
      obtain ⟨-, c0, c1, c2', c3, c4, c5, c6⟩ := B2.out.2.1
      cases d2 with
      | false =>
        go_wp2
        go_ret
        exact ⟨rfl, B2.out.1⟩
      | true =>
        go_wp2_with fail
        refine Calls.mono (T3 _ B2.out.2.2.i) ?_
        rintro e w3 ⟨rfl, rfl⟩
        have B3 : Hid (Below w.heap.size w w3) := B2.out.1
        clear T3 B2 c0 c1 c2' c3 c4 c5 c6
        go_wp2
        go_ret
        exact ⟨by simp, B3.out⟩
  rw [okB_5 h1 h2 h3 h4]
  go_enter Try.func29, Try.ntmps29
  go_wp2
  go_ret
  exact ⟨rfl, B0.out.1⟩
def chkE (b : Bool) : Int := if b = true then 0 else 110
set_option maxHeartbeats 1000000 in
theorem check_any (k u q : Int) (t g : ByteArray) (a : Option Addr) (n c : Nat) (a2 : Option Addr) (n2 c2 : Nat) (ss : List Sl) (is : List ByteArray) (w : World) (L : Hid (Lists w a n c a2 n2 c2 ss is)) :
    Calls Try.prog 11 #[mv k u q t g a n c a2 n2 c2] w fun e w' => e = .returned (.int .i64 (chkE (okB ⟨k, u, q, t, g, ss, is⟩))) ∧ Below w.heap.size w w' := by
  have MB := fun w h => mayBe_any k u q t g a n c a2 n2 c2 ss is w h
  obtain ⟨d, hd⟩ : ∃ d, okB ⟨k, u, q, t, g, ss, is⟩ = d := ⟨_, rfl⟩
  rw [hd] at MB ⊢
  clear hd
  go_enter Try.func11, Try.ntmps11
  go_wp2_with fail
  refine Calls.mono (MB _ (L.out.later ((Below.refl _ _).alloc (Nat.le_refl _) _))) ?_
  rintro e w1 ⟨rfl, hb1⟩
  have B1 : Hid (Below w.heap.size w w1) := chain ((Below.refl _ _).alloc (Nat.le_refl _) _) hb1
  clear hb1 MB
  cases d with
  | false =>
    go_wp2
    go_ret
    exact ⟨rfl, B1.out⟩
  | true =>
    go_wp2
    go_ret
    exact ⟨rfl, B1.out⟩
end Go.Proofs.Ytbaajpefefedbaa
