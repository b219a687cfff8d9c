/- MailLong, MailBack. -/
import Derived.Test.YtbaajpefefedbaaMlP
namespace Go.Proofs.Ytbaajpefefedbaa
open Go.RowKit Go.Proofs.Fd Go.Proofs.Ml
set_option maxRecDepth 20000

theorem two_new (w : World) (ty : TypeId) (k u q : Int) (t g : ByteArray) (a : Option Addr) (n c : Nat) (a2 : Option Addr) (n2 c2 : Nat) (k' u' q' : Int) (t' g' : ByteArray) (b : Option Addr) (m d : Nat) (b2 : Option Addr) (m2 d2 : Nat) :
    ∃ X, (w.alloc (.cells #[.int .i64 k, .int .i64 u, .int .i64 q, .string t, .string g, .slice a n c, .slice a2 n2 c2] ty)).alloc (.cells #[.int .i64 k', .int .i64 u', .int .i64 q', .string t', .string g', .slice b m d, .slice b2 m2 d2] ty) = X ∧ Hid (Below w.heap.size w X ∧ MlAt X w.heap.size k u q t g a n c a2 n2 c2 ∧ MlAt X (w.heap.size + 1) k' u' q' t' g' b m d b2 m2 d2) := by
  refine ⟨_, rfl, ((Below.refl _ w).alloc (Nat.le_refl _) _).alloc (by simp) _, (MlAt.new w _ _ _ _ _ _ _ _ _ _ _ _).later ((Below.refl _ _).alloc (Nat.le_refl _) _), ?_⟩
  have := MlAt.new (w.alloc (.cells #[.int .i64 k, .int .i64 u, .int .i64 q, .string t, .string g, .slice a n c, .slice a2 n2 c2] ty)) ty k' u' q' t' g' b m d b2 m2 d2
  rw [show (w.alloc (.cells #[.int .i64 k, .int .i64 u, .int .i64 q, .string t, .string g, .slice a n c, .slice a2 n2 c2] ty)).heap.size = w.heap.size + 1 by simp] at this
  exact this
theorem en_size {m : Ml} (h : okB m = true) : (enS m).size = long m.k := by
  unfold enS
  rw [if_pos h, mk_size, txt_len h]
set_option maxHeartbeats 1000000 in
theorem MailLong_walk (k u q : Int) (t g : ByteArray) (a : Option Addr) (n c : Nat) (a2 : Option Addr) (n2 c2 : Nat) (ss : List Sl) (is : List ByteArray) (k' u' q' : Int) (t' g' : ByteArray) (b : Option Addr) (m d : Nat) (b2 : Option Addr) (m2 d2 : Nat) (ss' : List Sl) (is' : List ByteArray) (w : World) (L : Hid (Lists w a n c a2 n2 c2 ss is)) (L' : Hid (Lists w b m d b2 m2 d2 ss' is')) :
    Calls Try.prog 6 #[mv k u q t g a n c a2 n2 c2, mv k' u' q' t' g' b m d b2 m2 d2] w fun e w' => e = .returned (.bool true) ∧ Below w.heap.size w w' := by
  obtain ⟨X, hX, F0⟩ := two_new w 25 k u q t g a n c a2 n2 c2 k' u' q' t' g' b m d b2 m2 d2
  go_enter Try.func6, Try.ntmps6
  go_wp2_with fail
  first
  | rw [hX]
  | skip
  clear hX
  refine Calls.mono (mworks_any X) ?_
  rintro e w1 ⟨rfl, hb1⟩
  have F1 : Hid (Below w.heap.size w w1 ∧ MlAt w1 w.heap.size k u q t g a n c a2 n2 c2 ∧ MlAt w1 (w.heap.size + 1) k' u' q' t' g' b m d b2 m2 d2) := ⟨chain F0.out.1 hb1, F0.out.2.1.later hb1, F0.out.2.2.later hb1⟩
  clear hb1 F0
  obtain ⟨-, p0, p1, p2, p3, p4, p5, p6⟩ := F1.out.2.1
  go_wp2_with fail
  refine Calls.mono (encode_any k u q t g a n c a2 n2 c2 ss is w1 (L.out.later F1.out.1)) ?_
  rintro e w2 ⟨rfl, hb2⟩
  have F2 : Hid (Below w.heap.size w w2 ∧ MlAt w2 w.heap.size k u q t g a n c a2 n2 c2 ∧ MlAt w2 (w.heap.size + 1) k' u' q' t' g' b m d b2 m2 d2) := ⟨chain F1.out.1 hb2, F1.out.2.1.later hb2, F1.out.2.2.later hb2⟩
  clear hb2 F1 p0 p1 p2 p3 p4 p5 p6
  obtain ⟨-, p0, p1, p2, p3, p4, p5, p6⟩ := F2.out.2.2
  obtain ⟨x, hx⟩ : ∃ x, enS ⟨k, u, q, t, g, ss, is⟩ = x := ⟨_, rfl⟩
  obtain ⟨y, hy⟩ : ∃ x, enS ⟨k', u', q', t', g', ss', is'⟩ = x := ⟨_, rfl⟩
  rw [hx]
  go_wp2_with fail
  refine Calls.mono (encode_any k' u' q' t' g' b m d b2 m2 d2 ss' is' w2 (L'.out.later F2.out.1)) ?_
  rintro e w3 ⟨rfl, hb3⟩
  have F3 : Hid (Below w.heap.size w w3 ∧ MlAt w3 w.heap.size k u q t g a n c a2 n2 c2 ∧ MlAt w3 (w.heap.size + 1) k' u' q' t' g' b m d b2 m2 d2) := ⟨chain F2.out.1 hb3, F2.out.2.1.later hb3, F2.out.2.2.later hb3⟩
  clear hb3 F2 p0 p1 p2 p3 p4 p5 p6
  obtain ⟨-, p0, -⟩ := F3.out.2.1
  obtain ⟨-, q0, -⟩ := F3.out.2.2
  rw [hy]
  cases h1 : okB ⟨k, u, q, t, g, ss, is⟩ with
  | false =>
    rw [show chkE false = 110 from rfl]
    generalize chkE (okB ⟨k', u', q', t', g', ss', is'⟩) = E
    clear hx hy h1
    go_wp2
    go_ret
    exact ⟨rfl, F3.out.1⟩
  | true =>
    rw [show chkE true = 0 from rfl]
    cases h2 : okB ⟨k', u', q', t', g', ss', is'⟩ with
    | false =>
      rw [show chkE false = 110 from rfl]
      clear hx hy h1 h2
      go_wp2
      go_ret
      exact ⟨rfl, F3.out.1⟩
    | true =>
      rw [show chkE true = 0 from rfl]
      by_cases hk : k = k'
      · subst hk
        have e1 := en_size h1
        have e2 := en_size h2
        rw [hx] at e1
        rw [hy] at e2
        simp only at e1 e2
        clear hx hy h1 h2
        have e3 : x.size = y.size := by rw [e1, e2]
        clear e1 e2
        go_wp2
        go_ret
        exact ⟨by simp, F3.out.1⟩
      · have hb : (k != k') = true := by simpa using hk
        clear hx hy h1 h2
        go_wp2
        go_ret
        exact ⟨rfl, F3.out.1⟩
set_option maxHeartbeats 2000000 in
theorem MailBack_walk (k u q : Int) (t g : ByteArray) (a : Option Addr) (n c : Nat) (a2 : Option Addr) (n2 c2 : Nat) (ss : List Sl) (is : List ByteArray) (s : ByteArray) (hz : s.size ≤ 140737488355328) (w : World) (L : Hid (Lists w a n c a2 n2 c2 ss is)) :
    Calls Try.prog 5 #[mv k u q t g a n c a2 n2 c2, .string s] w fun e w' => e = .returned (.bool true) ∧ Below w.heap.size w w' := by
  obtain ⟨X, hX⟩ : ∃ X, w.alloc (.cells #[.int .i64 k, .int .i64 u, .int .i64 q, .string t, .string g, .slice a n c, .slice a2 n2 c2] 25) = X := ⟨_, rfl⟩
  have F0 : Hid (Below w.heap.size w X ∧ MlAt X w.heap.size k u q t g a n c a2 n2 c2) := by
    rw [← hX]
    exact ⟨(Below.refl _ _).alloc (Nat.le_refl _) _, MlAt.new _ _ _ _ _ _ _ _ _ _ _ _ _⟩
  go_enter Try.func5, Try.ntmps5
  go_wp2_with fail
  clear hX
  refine Calls.mono (mworks_any X) ?_
  rintro e w1 ⟨rfl, hb1⟩
  have F1 : Hid (Below w.heap.size w w1 ∧ MlAt w1 w.heap.size k u q t g a n c a2 n2 c2) := ⟨chain F0.out.1 hb1, F0.out.2.later hb1⟩
  clear hb1 F0
  obtain ⟨-, p0, p1, p2, p3, p4, p5, p6⟩ := F1.out.2
  go_wp2_with fail
  cases h1 : okB ⟨k, u, q, t, g, ss, is⟩ with
  | false =>
    refine Calls.mono (encode_no k u q t g a n c a2 n2 c2 ss is h1 w1 (L.out.later F1.out.1)) ?_
    rintro e w2 ⟨rfl, hb2⟩
    have F2 : Hid (Below w.heap.size w w2) := chain F1.out.1 hb2
    clear hb2 F1 p0 p1 p2 p3 p4 p5 p6 h1
    unfold e0
    go_wp2_with fail
    refine Calls.mono (decode_any s hz w2) ?_
    rintro e x1 ⟨v, rfl, hv1, hc1⟩
    have G1 : Hid (Below w.heap.size w x1 ∧ MlV x1 v (dm (by' s))) := ⟨chain F2.out hc1, hv1⟩
    clear hc1 hv1
    cases hd : decB (by' s) with
    | false =>
      have ed : de (by' s) = 110 ∧ dm (by' s) = zm := by unfold de dm; rw [hd]; exact ⟨rfl, rfl⟩
      rw [ed.1]
      obtain ⟨a', n', c', a2', n2', c2', rfl, LL⟩ := G1.out.2
      rw [ed.2] at LL ⊢
      have G2 : Hid (∀ o : Obj, Below w.heap.size w (x1.alloc o) ∧ Lists (x1.alloc o) a' n' c' a2' n2' c2' zm.sl zm.ids) := fun o => ⟨G1.out.1.alloc G1.out.1.size o, LL.later ((Below.refl _ _).alloc (Nat.le_refl _) _)⟩
      clear ed hd LL
      unfold zm at G2 ⊢
      simp only at G2 ⊢
      go_wp2_with fail
      refine Calls.mono (sameMail_yes _ _ zm _ ⟨a', n', c', a2', n2', c2', rfl, (G2.out _).2⟩ (MlV.zero _)) ?_
      rintro e x2 ⟨rfl, hc2⟩
      have G3 : Hid (Below w.heap.size w x2) := chain (G2.out _).1 hc2
      clear hc2 G2
      go_wp2
      go_ret
      exact ⟨rfl, G3.out⟩
    | true =>
      have ed : de (by' s) = 0 ∧ dm (by' s) = rd (by' s) := by unfold de dm; rw [hd]; exact ⟨rfl, rfl⟩
      obtain ⟨ok, tx⟩ := dec_ok hd
      rw [ed.1]
      obtain ⟨a', n', c', a2', n2', c2', rfl, LL⟩ := G1.out.2
      rw [ed.2] at LL ⊢
      generalize rd (by' s) = r at *
      obtain ⟨k', u', q', t', g', ss', is'⟩ := r
      simp only at LL ⊢
      have G2 : Hid (∀ o : Obj, Below w.heap.size w (x1.alloc o) ∧ Lists (x1.alloc o) a' n' c' a2' n2' c2' ss' is') := fun o => ⟨G1.out.1.alloc G1.out.1.size o, LL.later ((Below.refl _ _).alloc (Nat.le_refl _) _)⟩
      have EN : Hid (∀ W, Lists W a' n' c' a2' n2' c2' ss' is' → Calls Try.prog 9 #[mv k' u' q' t' g' a' n' c' a2' n2' c2'] W fun e w' => e = .returned (.tuple #[.string s, .int .i64 0]) ∧ Below W.heap.size W w') := fun W hW => by
        have := encode_ok k' u' q' t' g' a' n' c' a2' n2' c2' ss' is' ok W hW
        rw [tx] at this
        exact this
      clear ed hd LL ok tx
      go_wp2_with fail
      refine Calls.mono (EN.out _ (G2.out _).2) ?_
      rintro e x2 ⟨rfl, hc2⟩
      have G3 : Hid (Below w.heap.size w x2) := chain (G2.out _).1 hc2
      have YY : (s.toList == s.toList) = true := by simp
      clear hc2 G2 EN
      go_wp2
      go_ret
      exact ⟨by simp, G3.out⟩
  | true =>
    refine Calls.mono (encode_ok k u q t g a n c a2 n2 c2 ss is h1 w1 (L.out.later F1.out.1)) ?_
    rintro e w2 ⟨rfl, hb2⟩
    have F2 : Hid (Below w.heap.size w w2 ∧ MlAt w2 w.heap.size k u q t g a n c a2 n2 c2) := ⟨chain F1.out.1 hb2, F1.out.2.later hb2⟩
    clear hb2 F1 p0 p1 p2 p3 p4 p5 p6
    obtain ⟨T, hT⟩ : ∃ T, mk (txt ⟨k, u, q, t, g, ss, is⟩) = T := ⟨_, rfl⟩
    have ts : T.size = long k := by rw [← hT, mk_size, txt_len h1]
    have DT : Hid (de (by' T) = 0 ∧ dm (by' T) = ⟨k, u, q, t, g, ss, is⟩) := by
      rw [← hT, by_mk]
      unfold de dm
      rw [(dec_txt h1).1, rd_back h1]; exact ⟨rfl, rfl⟩
    rw [hT]
    have tl := long_le k
    have DC : Hid (∀ W, Calls Try.prog 17 #[.string T] W fun e w' => ∃ a n c a2 n2 c2, e = .returned (.tuple #[mv k u q t g a n c a2 n2 c2, .int .i64 0]) ∧ Lists w' a n c a2 n2 c2 ss is ∧ Below W.heap.size W w') := fun W => by
      refine Calls.mono (decode_any T (by omega) W) ?_
      rintro e w' ⟨v, rfl, hv, hb⟩
      rw [DT.out.2] at hv
      obtain ⟨a, n, c, a2, n2, c2, rfl, LL⟩ := hv
      rw [DT.out.1]
      exact ⟨a, n, c, a2, n2, c2, rfl, LL, hb⟩
    clear hT h1 DT tl
    go_wp2_with fail
    refine Calls.mono (DC.out _) ?_
    rintro e w3 ⟨b, m, d, b2, m2, d2, rfl, LL, hb3⟩
    have F3 : Hid (∀ o : Obj, Below w.heap.size w (w3.alloc o) ∧ MlAt (w3.alloc o) w.heap.size k u q t g a n c a2 n2 c2 ∧ Lists (w3.alloc o) b m d b2 m2 d2 ss is) := fun o => by
      have h : Below w3.heap.size w3 (w3.alloc o) := (Below.refl _ _).alloc (Nat.le_refl _) _
      exact ⟨chain (chain F2.out.1 hb3) h, (F2.out.2.later hb3).later h, LL.later h⟩
    obtain ⟨Y, hY⟩ : ∃ Y, w3.alloc (.cells #[.int .i64 k, .int .i64 u, .int .i64 q, .string t, .string g, .slice b m d, .slice b2 m2 d2] 25) = Y := ⟨_, rfl⟩
    have F4 : Hid (Below w.heap.size w Y ∧ MlAt Y w.heap.size k u q t g a n c a2 n2 c2 ∧ Lists Y b m d b2 m2 d2 ss is ∧ MlAt Y w3.heap.size k u q t g b m d b2 m2 d2) := by
      rw [← hY]
      exact ⟨(F3.out _).1, (F3.out _).2.1, (F3.out _).2.2, MlAt.new _ _ _ _ _ _ _ _ _ _ _ _ _⟩
    clear hb3 LL F2 F3 DC
    obtain ⟨-, p0, p1, p2, p3, p4, p5, p6⟩ := F4.out.2.1
    obtain ⟨-, r0, r1, r2, r3, r4, r5, r6⟩ := F4.out.2.2.2
    go_wp2_with fail
    clear hY
    refine Calls.mono (sameMail_yes _ _ ⟨k, u, q, t, g, ss, is⟩ Y ⟨b, m, d, b2, m2, d2, rfl, F4.out.2.2.1⟩ ⟨a, n, c, a2, n2, c2, rfl, L.out.later F4.out.1⟩) ?_
    rintro e w4 ⟨rfl, hb4⟩
    have F5 : Hid (Below w.heap.size w w4 ∧ MlAt w4 w.heap.size k u q t g a n c a2 n2 c2) := ⟨chain F4.out.1 hb4, F4.out.2.1.later hb4⟩
    clear hb4 F4 p0 p1 p2 p3 p4 p5 p6 r0 r1 r2 r3 r4 r5 r6
    obtain ⟨-, p0, p1, p2, p3, p4, p5, p6⟩ := F5.out.2
    go_wp2_with fail
    refine Calls.mono (mlong_any k _) ?_
    rintro e w5 ⟨rfl, hw5⟩
    have hw6 := hw5.symm
    subst hw6
    clear hw5 p0 p1 p2 p3 p4 p5 p6
    rw [← ts]
    clear ts
    go_wp2_with fail
    refine Calls.mono (decode_any s hz w4) ?_
    rintro e x1 ⟨v, rfl, hv1, hc1⟩
    have G1 : Hid (Below w.heap.size w x1 ∧ MlV x1 v (dm (by' s))) := ⟨chain F5.out.1 hc1, hv1⟩
    clear hc1 hv1
    cases hd : decB (by' s) with
    | false =>
      have ed : de (by' s) = 110 ∧ dm (by' s) = zm := by unfold de dm; rw [hd]; exact ⟨rfl, rfl⟩
      rw [ed.1]
      obtain ⟨a', n', c', a2', n2', c2', rfl, LL⟩ := G1.out.2
      rw [ed.2] at LL ⊢
      have G2 : Hid (∀ o : Obj, Below w.heap.size w (x1.alloc o) ∧ Lists (x1.alloc o) a' n' c' a2' n2' c2' zm.sl zm.ids) := fun o => ⟨G1.out.1.alloc G1.out.1.size o, LL.later ((Below.refl _ _).alloc (Nat.le_refl _) _)⟩
      clear ed hd LL
      unfold zm at G2 ⊢
      simp only at G2 ⊢
      go_wp2_with fail
      refine Calls.mono (sameMail_yes _ _ zm _ ⟨a', n', c', a2', n2', c2', rfl, (G2.out _).2⟩ (MlV.zero _)) ?_
      rintro e x2 ⟨rfl, hc2⟩
      have G3 : Hid (Below w.heap.size w x2) := chain (G2.out _).1 hc2
      clear hc2 G2
      go_wp2
      go_ret
      exact ⟨rfl, G3.out⟩
    | true =>
      have ed : de (by' s) = 0 ∧ dm (by' s) = rd (by' s) := by unfold de dm; rw [hd]; exact ⟨rfl, rfl⟩
      obtain ⟨ok, tx⟩ := dec_ok hd
      rw [ed.1]
      obtain ⟨a', n', c', a2', n2', c2', rfl, LL⟩ := G1.out.2
      rw [ed.2] at LL ⊢
      generalize rd (by' s) = r at *
      obtain ⟨k', u', q', t', g', ss', is'⟩ := r
      simp only at LL ⊢
      have G2 : Hid (∀ o : Obj, Below w.heap.size w (x1.alloc o) ∧ Lists (x1.alloc o) a' n' c' a2' n2' c2' ss' is') := fun o => ⟨G1.out.1.alloc G1.out.1.size o, LL.later ((Below.refl _ _).alloc (Nat.le_refl _) _)⟩
      have EN : Hid (∀ W, Lists W a' n' c' a2' n2' c2' ss' is' → Calls Try.prog 9 #[mv k' u' q' t' g' a' n' c' a2' n2' c2'] W fun e w' => e = .returned (.tuple #[.string s, .int .i64 0]) ∧ Below W.heap.size W w') := fun W hW => by
        have := encode_ok k' u' q' t' g' a' n' c' a2' n2' c2' ss' is' ok W hW
        rw [tx] at this
        exact this
      clear ed hd LL ok tx
      go_wp2_with fail
      refine Calls.mono (EN.out _ (G2.out _).2) ?_
      rintro e x2 ⟨rfl, hc2⟩
      have G3 : Hid (Below w.heap.size w x2) := chain (G2.out _).1 hc2
      have YY : (s.toList == s.toList) = true := by simp
      clear hc2 G2 EN
      go_wp2
      go_ret
      exact ⟨by simp, G3.out⟩
end Go.Proofs.Ytbaajpefefedbaa
