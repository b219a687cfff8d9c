/- The first of some timers. -/
import Derived.Test.YthnkkkiobbnpmaaWhS
namespace Go.Proofs.Ythnkkkiobbnpmaa
open Go.RowKit Go.Proofs.Fd Go.Proofs.Wh
set_option maxRecDepth 20000

/-- Timers that lie in a row. -/
def TmAt (w : World) (g : Nat) (l : List Tm) : Prop := ∀ i (hi : i < l.length), w.cell? ⟨g, i * 3, none⟩ = some (.int .i64 (l[i].a : Int)) ∧ w.cell? ⟨g, i * 3 + 1, none⟩ = some (.int .i64 (l[i].n : Int)) ∧ w.cell? ⟨g, i * 3 + 2, none⟩ = some (.int .i64 l[i].i)
theorem TmAt.later {W w1 : World} {g : Nat} {l : List Tm} (h : TmAt W g l) (hb : Below W.heap.size W w1) : TmAt w1 g l := fun i hi => ⟨cell_later hb (h i hi).1, cell_later hb (h i hi).2.1, cell_later hb (h i hi).2.2⟩
theorem owns_tm {w : World} {v : Value} {l : List Tm} (h : OwnsT w v l) : (v = .slice none 0 0 ∧ l = []) ∨ ∃ g cap, v = .slice (some ⟨g, 0, none⟩) l.length cap ∧ TmAt w g l ∧ l.length ≤ cap := by
  rcases h.2 with ⟨h1, h2⟩ | ⟨g, cap, cur, h1, h2, h3, h4, -⟩
  · exact .inl ⟨h1, List.length_eq_zero_iff.1 h2⟩
  · refine .inr ⟨g, cap, h1, fun i hi => ?_, h4⟩
    rw [h1] at h
    obtain ⟨a1, a2, a3⟩ := tcs_get l i hi
    exact ⟨(h.cellAt (i * 3) (by omega)).trans a1, (h.cellAt (i * 3 + 1) (by omega)).trans a2, (h.cellAt (i * 3 + 2) (by omega)).trans a3⟩
/-- A block that holds one timer. -/
def T1 (w : World) (b : Nat) (t : Tm) : Prop := w.cell? ⟨b, 0, none⟩ = some (.int .i64 (t.a : Int)) ∧ w.cell? ⟨b, 1, none⟩ = some (.int .i64 (t.n : Int)) ∧ w.cell? ⟨b, 2, none⟩ = some (.int .i64 t.i) ∧ (∀ o, w.frozen? ⟨b, o, none⟩ = false)
theorem T1.later {W w1 : World} {b : Nat} {t : Tm} (h : T1 W b t) (hb : Below W.heap.size W w1) : T1 w1 b t :=
  ⟨cell_later hb h.1, cell_later hb h.2.1, cell_later hb h.2.2.1, fun o => (frozen_kept hb (World.block_lt_of_cell? _ _ h.1)).trans (h.2.2.2 o)⟩
theorem res_min (tmps : Array Value) (w : World) (b : Nat) (x : Array Value) (h0 : tmps.getD 4 undef = .pointer (some ⟨b, 0, none⟩))
    (l1 : (loadVar 59 ⟨b, 0, none⟩).run Try.prog w = .ok (.agg x) w) :
    (results Try.f31 tmps).run Try.prog w = .ok (.agg x) w := by
  unfold results
  rw [Try.results31]
  have h0' : tmps[4]?.getD undef = .pointer (some ⟨b, 0, none⟩) := by simpa using h0
  simp [h0', l1, asAddr]
theorem range3 {w : World} {b : Nat} {x y z : Value} (h0 : w.cell? ⟨b, 0, none⟩ = some x) (h1 : w.cell? ⟨b, 1, none⟩ = some y) (h2 : w.cell? ⟨b, 2, none⟩ = some z) : w.rangeAt b 0 [x, y, z] := by
  intro k v hv
  match k with
  | 0 => simp at hv; subst hv; simpa using h0
  | 1 => simp at hv; subst hv; simpa using h1
  | 2 => simp at hv; subst hv; simpa using h2
  | k + 3 => simp at hv
theorem keep6 {W wc w1 : World} {a b c d e f : Addr} {x y z u v r : Value} (hb : Below wc.heap.size wc w1) (h : wc.cell? a = some x ∧ wc.cell? b = some y ∧ wc.cell? c = some z ∧ wc.cell? d = some u ∧ wc.cell? e = some v ∧ wc.cell? f = some r ∧ Below W.heap.size W wc) :
    w1.cell? a = some x ∧ w1.cell? b = some y ∧ w1.cell? c = some z ∧ w1.cell? d = some u ∧ w1.cell? e = some v ∧ w1.cell? f = some r ∧ Below W.heap.size W w1 :=
  ⟨cell_later hb h.1, cell_later hb h.2.1, cell_later hb h.2.2.1, cell_later hb h.2.2.2.1, cell_later hb h.2.2.2.2.1, cell_later hb h.2.2.2.2.2.1, chain h.2.2.2.2.2.2 hb⟩
theorem T1.set {w : World} {b : Nat} {m : Tm} (h : T1 w b m) (t : Tm) : T1 (((w.setCell ⟨b, 0, none⟩ (.int .i64 (t.a : Int))).setCell ⟨b, 1, none⟩ (.int .i64 (t.n : Int))).setCell ⟨b, 2, none⟩ (.int .i64 t.i)) b t := by
  obtain ⟨h0, h1, h2, h3⟩ := h
  exact ⟨by simp [go_sem, h0], by simp [go_sem, h1], by simp [go_sem, h2], fun o => by simp [go_sem, h3]⟩
theorem T1.off {w : World} {b c : Nat} {m : Tm} (h : T1 w b m) (hne : c ≠ b) (x y z : Value) : T1 (((w.setCell ⟨c, 0, none⟩ x).setCell ⟨c, 1, none⟩ y).setCell ⟨c, 2, none⟩ z) b m := by
  obtain ⟨h0, h1, h2, h3⟩ := h
  exact ⟨cell_setCell (cell_setCell (cell_setCell h0 hne) hne) hne, cell_setCell (cell_setCell (cell_setCell h1 hne) hne) hne, cell_setCell (cell_setCell (cell_setCell h2 hne) hne) hne, fun o => by rw [frozen_setCell hne, frozen_setCell hne, frozen_setCell hne]; exact h3 o⟩
theorem below3 {B : Nat} {a w : World} (h : Below B a w) {c : Nat} (hc : B ≤ c) (x y z : Value) : Below B a (((w.setCell ⟨c, 0, none⟩ x).setCell ⟨c, 1, none⟩ y).setCell ⟨c, 2, none⟩ z) :=
  ((h.setCell (p := ⟨c, 0, none⟩) hc _).setCell (p := ⟨c, 1, none⟩) hc _).setCell (p := ⟨c, 2, none⟩) hc _
/-- The least of those that were looked at. -/
def Lst (l : List Tm) (k : Nat) (m : Tm) : Prop := m ∈ l.take k ∧ ∀ t ∈ l.take k, ¬ lt t m
theorem Lst.step {l : List Tm} {k : Nat} {m : Tm} (h : Lst l k m) (hk : k < l.length) : (cmpT l[k] m < 0 → Lst l (k + 1) l[k]) ∧ (¬ cmpT l[k] m < 0 → Lst l (k + 1) m) := by
  rw [cmpT_lt]
  refine ⟨fun hc => ⟨?_, fun t ht => ?_⟩, fun hc => ⟨?_, fun t ht => ?_⟩⟩
  · rw [List.take_succ_eq_append_getElem hk, List.mem_append]
    exact .inr (List.mem_singleton.2 rfl)
  · rw [List.take_succ_eq_append_getElem hk, List.mem_append, List.mem_singleton] at ht
    rcases ht with ht | rfl
    · exact fun c => h.2 t ht (lt_trans c hc)
    · exact lt_irrefl _
  · rw [List.take_succ_eq_append_getElem hk, List.mem_append]
    exact .inl h.1
  · rw [List.take_succ_eq_append_getElem hk, List.mem_append, List.mem_singleton] at ht
    rcases ht with ht | rfl
    · exact h.2 t ht
    · exact hc
set_option maxHeartbeats 2000000 in
theorem min_any (g cap : Nat) (l : List Tm) (n : Nat) (hn : l.length = n) (h0 : 0 < n) (h1 : n ≤ 4096) (w : World) (h : Hid (TmAt w g l)) :
    Calls Try.prog 31 #[.slice (some ⟨g, 0, none⟩) n cap, .func (.func 30) #[] #[]] w fun e w' => ∃ m, e = .returned (.agg #[.int .i64 (m.a : Int), .int .i64 (m.n : Int), .int .i64 m.i]) ∧ m ∈ l ∧ (∀ t ∈ l, ¬ lt t m) ∧ Below w.heap.size w w' := by
  obtain ⟨a0, a1, a2⟩ := h.out 0 (by omega)
  rw [Nat.zero_mul] at a0 a1 a2
  rw [Nat.zero_add] at a1 a2
  obtain ⟨m0, hm0⟩ : ∃ m0, l[0] = m0 := ⟨_, rfl⟩
  rw [hm0] at a0 a1 a2
  have hg : g < w.heap.size := World.block_lt_of_cell? _ _ a0
  have hg1 : ¬ g = w.heap.size := by omega
  have hg2 : ¬ g = w.heap.size + 1 := by omega
  have q0 : ¬ ((n : Int) < 1) := by omega
  have q1 : (0 : Int) < (n : Int) := by omega
  go_enter Try.func31, Try.ntmps31
  go_wp2
  have I0 : Hid (T1 ((w.alloc (.cells #[.int .i64 0, .int .i64 0, .int .i64 0] 59)).alloc (.cells #[.int .i64 (m0.a : Int), .int .i64 (m0.n : Int), .int .i64 m0.i] 59)) (w.heap.size + 1) m0 ∧ T1 ((w.alloc (.cells #[.int .i64 0, .int .i64 0, .int .i64 0] 59)).alloc (.cells #[.int .i64 (m0.a : Int), .int .i64 (m0.n : Int), .int .i64 m0.i] 59)) w.heap.size ⟨0, 0, 0⟩ ∧ Lst l 1 m0 ∧ Below w.heap.size w ((w.alloc (.cells #[.int .i64 0, .int .i64 0, .int .i64 0] 59)).alloc (.cells #[.int .i64 (m0.a : Int), .int .i64 (m0.n : Int), .int .i64 m0.i] 59))) := by
    refine ⟨⟨by simp [go_sem], by simp [go_sem], by simp [go_sem], fun o => by simp [go_sem]⟩, ⟨by simp [go_sem], by simp [go_sem], by simp [go_sem], fun o => by simp [go_sem]⟩, ?_, ((Below.refl _ w).alloc (Nat.le_refl _) _).alloc (by simp) _⟩
    have e : l.take 1 = [m0] := by
      rw [List.take_succ_eq_append_getElem (show 0 < l.length by omega), hm0]
      rfl
    refine ⟨by rw [e]; exact List.mem_singleton.2 rfl, fun t ht => ?_⟩
    rw [e, List.mem_singleton] at ht
    subst ht
    exact lt_irrefl _
  obtain ⟨W, hW⟩ : ∃ W, ((w.alloc (.cells #[.int .i64 0, .int .i64 0, .int .i64 0] 59)).alloc (.cells #[.int .i64 (m0.a : Int), .int .i64 (m0.n : Int), .int .i64 m0.i] 59)) = W := ⟨_, rfl⟩
  rw [hW] at I0 ⊢
  clear hW a0 a1 a2 hm0 hg1 hg2 q1 q0
  obtain ⟨B, hB⟩ : ∃ B, w.heap.size = B := ⟨_, rfl⟩
  have HB : Hid (B ≤ w.heap.size ∧ w.heap.size ≤ B) := ⟨by omega, by omega⟩
  have HG : Hid (g < B) := by show g < B; omega
  rw [hB] at I0 ⊢
  clear hB hg
  have hn' : Hid (l.length = n) := hn
  clear hn
  go_loopw [6] (fun i wr => ∃ (k : Nat) (m : Tm), 1 ≤ k ∧ k ≤ n ∧ i = .int .i64 (k : Int) ∧ Hid (T1 wr (B + 1) m ∧ T1 wr B ⟨0, 0, 0⟩ ∧ Lst l k m ∧ Below B w wr)) (fun i _ => n - (intOf i).toNat)
  case atStart => exact ⟨1, m0, by omega, by omega, rfl, I0.out⟩
  case round =>
    obtain ⟨k, m, hk1, hk, rfl, I⟩ := hrel
    clear I0
    by_cases hlt : k < n
    · have g1 : (k : Int) < (n : Int) := by omega
      have hkl : k < l.length := by have := hn'.out; omega
      have hT := (h.out.later (I.out.2.2.2.mono HB.out.2)) k hkl
      obtain ⟨a0, a1, a2⟩ := hT
      have hs := I.out.2.2.1.step hkl
      obtain ⟨t, ht⟩ : ∃ t, l[k] = t := ⟨_, rfl⟩
      rw [ht] at a0 a1 a2 hs
      clear ht
      obtain ⟨b0, b1, b2, bf⟩ := I.out.1
      have ST : Hid (∀ W, Calls Try.prog 30 #[.agg #[.int .i64 (t.a : Int), .int .i64 (t.n : Int), .int .i64 t.i], .agg #[.int .i64 (m.a : Int), .int .i64 (m.n : Int), .int .i64 m.i]] W fun e w' => e = .returned (.int .i64 (cmpT t m)) ∧ Below W.heap.size W w') := fun W => (stand_any t m W).mono fun e w' h => ⟨h.1, h.2.below⟩
      have HS : Hid _ := hs
      clear hs
      obtain ⟨c, hc⟩ : ∃ c, cmpT t m = c := ⟨_, rfl⟩
      rw [hc] at ST HS
      clear hc
      go_wp2
      go_region_held3 (fun w' => w'.cell? ⟨g, k * 3, none⟩ = some (.int .i64 (t.a : Int)) ∧ w'.cell? ⟨g, k * 3 + 1, none⟩ = some (.int .i64 (t.n : Int)) ∧ w'.cell? ⟨g, k * 3 + 2, none⟩ = some (.int .i64 t.i) ∧ w'.cell? ⟨B + 1, 0, none⟩ = some (.int .i64 (m.a : Int)) ∧ w'.cell? ⟨B + 1, 1, none⟩ = some (.int .i64 (m.n : Int)) ∧ w'.cell? ⟨B + 1, 2, none⟩ = some (.int .i64 m.i) ∧ Below wr.heap.size wr w') (first | exact ⟨a0, a1, a2, b0, b1, b2, (Below.refl _ _).drew⟩ | exact keep6 (by assumption) (by assumption)) (first | (go_at_call 30; refine Calls.mono (ST.out _) ?_; rintro e w9 ⟨rfl, hb9⟩))
      rename_i hH
      obtain ⟨d0, d1, d2, -, -, -, hbw⟩ := hH
      have J : Hid (T1 w9 (B + 1) m ∧ T1 w9 B ⟨0, 0, 0⟩ ∧ Below B w w9) := ⟨I.out.1.later hbw, I.out.2.1.later hbw, I.out.2.2.2.trans (hbw.mono (Nat.le_trans HB.out.1 I.out.2.2.2.size))⟩
      obtain ⟨e0, e1, e2, ef⟩ := J.out.1
      clear a0 a1 a2 b0 b1 b2 bf hb9 hbw ST I
      by_cases hc : c < 0
      · go_wp2
        go_roundw
        case rel => exact ⟨k + 1, t, by omega, by omega, by go_num, J.out.1.set t, J.out.2.1.off (by omega) _ _ _, HS.out.1 hc, below3 J.out.2.2 (by omega) _ _ _⟩
        case measure => simp [intOf]; omega
      · go_wp2
        go_roundw
        case rel => exact ⟨k + 1, m, by omega, by omega, by go_num, J.out.1, J.out.2.1, HS.out.2 (by omega), J.out.2.2⟩
        case measure => simp [intOf]; omega
    · obtain rfl : k = n := by omega
      obtain ⟨b0, b1, b2, bf⟩ := I.out.1
      obtain ⟨z0, z1, z2, zf⟩ := I.out.2.1
      go_wp2
      have J := (I.out.2.1.set m)
      have JB := below3 I.out.2.2.2 (Nat.le_refl B) (.int .i64 (m.a : Int)) (.int .i64 (m.n : Int)) (.int .i64 m.i)
      have hL := I.out.2.2.1
      unfold Lst at hL
      rw [List.take_of_length_le (by have := hn'.out; omega)] at hL
      refine bodyPost_ret (v := .agg #[.int .i64 (m.a : Int), .int .i64 (m.n : Int), .int .i64 m.i]) ?_ rfl ⟨m, rfl, hL.1, hL.2, JB.mono HB.out.2⟩
      exact res_min _ _ B _ (by kernel_rfl) (run_loadVar_mid _ B 0 59 [.int .i64 (m.a : Int), .int .i64 (m.n : Int), .int .i64 m.i] _ (range3 J.1 J.2.1 J.2.2.1) Try.underlying59 rfl (by kernel_rfl))
end Go.Proofs.Ythnkkkiobbnpmaa
