/- What mixed of the document does. -/
import Derived.Test.YtbogoheigbiegaaDoorZgG08
import Derived.Test.YtbogoheigbiegaaDoorZgG04
namespace Go.Proofs.YtbogoheigbiegaaDoor
open Go.RowKit Go.Proofs.Fd Go.Proofs.Hs
set_option maxRecDepth 20000
attribute [local go_sem] not32 and32 or32 xor32 add32 add32'
theorem at8_whole {w : World} {b : Nat} {x0 x1 x2 x3 x4 x5 x6 x7 : Value} (h : At8 w b x0 x1 x2 x3 x4 x5 x6 x7) (y0 y1 y2 y3 y4 y5 y6 y7 : Value) : At8 ((((((((w.setCell ⟨b, 0, none⟩ y0).setCell ⟨b, 1, none⟩ y1).setCell ⟨b, 2, none⟩ y2).setCell ⟨b, 3, none⟩ y3).setCell ⟨b, 4, none⟩ y4).setCell ⟨b, 5, none⟩ y5).setCell ⟨b, 6, none⟩ y6).setCell ⟨b, 7, none⟩ y7) b y0 y1 y2 y3 y4 y5 y6 y7 := by
  obtain ⟨f, h0, h1, h2, h3, h4, h5, h6, h7⟩ := h
  refine ⟨fun o => by simp [go_sem, f], ?_, ?_, ?_, ?_, ?_, ?_, ?_, ?_⟩ <;> simp [go_sem, h0, h1, h2, h3, h4, h5, h6, h7]
theorem at8_put {w : World} {b c : Nat} {x0 x1 x2 x3 x4 x5 x6 x7 : Value} (h : At8 w b x0 x1 x2 x3 x4 x5 x6 x7) (hne : c ≠ b) (y0 y1 y2 y3 y4 y5 y6 y7 : Value) : At8 ((((((((w.setCell ⟨c, 0, none⟩ y0).setCell ⟨c, 1, none⟩ y1).setCell ⟨c, 2, none⟩ y2).setCell ⟨c, 3, none⟩ y3).setCell ⟨c, 4, none⟩ y4).setCell ⟨c, 5, none⟩ y5).setCell ⟨c, 6, none⟩ y6).setCell ⟨c, 7, none⟩ y7) b x0 x1 x2 x3 x4 x5 x6 x7 :=
  ((((((((h.set (a := ⟨c, 0, none⟩) hne _).set (a := ⟨c, 1, none⟩) hne _).set (a := ⟨c, 2, none⟩) hne _).set (a := ⟨c, 3, none⟩) hne _).set (a := ⟨c, 4, none⟩) hne _).set (a := ⟨c, 5, none⟩) hne _).set (a := ⟨c, 6, none⟩) hne _).set (a := ⟨c, 7, none⟩) hne _)
theorem below_put8 {B : Nat} {a w : World} (h : Below B a w) {c : Nat} (hc : B ≤ c) (y0 y1 y2 y3 y4 y5 y6 y7 : Value) : Below B a ((((((((w.setCell ⟨c, 0, none⟩ y0).setCell ⟨c, 1, none⟩ y1).setCell ⟨c, 2, none⟩ y2).setCell ⟨c, 3, none⟩ y3).setCell ⟨c, 4, none⟩ y4).setCell ⟨c, 5, none⟩ y5).setCell ⟨c, 6, none⟩ y6).setCell ⟨c, 7, none⟩ y7) :=
  ((((((((h.setCell (p := ⟨c, 0, none⟩) hc _).setCell (p := ⟨c, 1, none⟩) hc _).setCell (p := ⟨c, 2, none⟩) hc _).setCell (p := ⟨c, 3, none⟩) hc _).setCell (p := ⟨c, 4, none⟩) hc _).setCell (p := ⟨c, 5, none⟩) hc _).setCell (p := ⟨c, 6, none⟩) hc _).setCell (p := ⟨c, 7, none⟩) hc _)
theorem words_put {w : World} {g c : Nat} {l : List UInt32} (h : WordsAt w g l) (hne : c ≠ g) (y0 y1 y2 y3 y4 y5 y6 y7 : Value) : WordsAt ((((((((w.setCell ⟨c, 0, none⟩ y0).setCell ⟨c, 1, none⟩ y1).setCell ⟨c, 2, none⟩ y2).setCell ⟨c, 3, none⟩ y3).setCell ⟨c, 4, none⟩ y4).setCell ⟨c, 5, none⟩ y5).setCell ⟨c, 6, none⟩ y6).setCell ⟨c, 7, none⟩ y7) g l := fun j hj =>
  cell_setCell (cell_setCell (cell_setCell (cell_setCell (cell_setCell (cell_setCell (cell_setCell (cell_setCell (h j hj) hne) hne) hne) hne) hne) hne) hne) hne
theorem words_set {w : World} {g c o : Nat} {l : List UInt32} (h : WordsAt w g l) (hne : c ≠ g) (v : Value) : WordsAt (w.setCell ⟨c, o, none⟩ v) g l := fun j hj => cell_setCell (h j hj) hne
structure Mx (w0 : World) (V S R g gk : Nat) (v s : V8) (W : List UInt32) (w : World) : Prop where
  v : At8 w V (.int .u32 (tv v.a)) (.int .u32 (tv v.b)) (.int .u32 (tv v.c)) (.int .u32 (tv v.d)) (.int .u32 (tv v.e)) (.int .u32 (tv v.f)) (.int .u32 (tv v.g)) (.int .u32 (tv v.h))
  s : At8 w S (.int .u32 (tv s.a)) (.int .u32 (tv s.b)) (.int .u32 (tv s.c)) (.int .u32 (tv s.d)) (.int .u32 (tv s.e)) (.int .u32 (tv s.f)) (.int .u32 (tv s.g)) (.int .u32 (tv s.h))
  r : At8 w R (.int .u32 0) (.int .u32 0) (.int .u32 0) (.int .u32 0) (.int .u32 0) (.int .u32 0) (.int .u32 0) (.int .u32 0)
  W : WordsAt w g W
  k : WordsAt w gk kst
  below : Below w0.heap.size w0 w
  ord : w0.heap.size ≤ V ∧ V < R ∧ R < g ∧ R < gk ∧ g < S ∧ gk < S
theorem Mx.drewN {w0 w : World} {V S R g gk : Nat} {v s : V8} {W : List UInt32} (h : Mx w0 V S R g gk v s W w) (n : Nat) : Mx w0 V S R g gk v s W (w.drewN n) := ⟨h.v, h.s, h.r, h.W, h.k, below_drewN h.below n, h.ord⟩
theorem Mx.setS {w0 w : World} {V S R g gk : Nat} {v s : V8} {W : List UInt32} (h : Mx w0 V S R g gk v s W w) (t : V8) : Mx w0 V S R g gk v t W ((((((((w.setCell ⟨S, 0, none⟩ (.int .u32 (tv t.a))).setCell ⟨S, 1, none⟩ (.int .u32 (tv t.b))).setCell ⟨S, 2, none⟩ (.int .u32 (tv t.c))).setCell ⟨S, 3, none⟩ (.int .u32 (tv t.d))).setCell ⟨S, 4, none⟩ (.int .u32 (tv t.e))).setCell ⟨S, 5, none⟩ (.int .u32 (tv t.f))).setCell ⟨S, 6, none⟩ (.int .u32 (tv t.g))).setCell ⟨S, 7, none⟩ (.int .u32 (tv t.h))) := by
  have o := h.ord
  exact ⟨at8_put h.v (by omega) _ _ _ _ _ _ _ _, at8_whole h.s _ _ _ _ _ _ _ _, at8_put h.r (by omega) _ _ _ _ _ _ _ _, words_put h.W (by omega) _ _ _ _ _ _ _ _, words_put h.k (by omega) _ _ _ _ _ _ _ _, below_put8 h.below (by omega) _ _ _ _ _ _ _ _, h.ord⟩
theorem Mx.setV0 {w0 w : World} {V S R g gk : Nat} {v s : V8} {W : List UInt32} (h : Mx w0 V S R g gk v s W w) (x : UInt32) : Mx w0 V S R g gk { v with a := x } s W (w.setCell ⟨V, 0, none⟩ (.int .u32 (tv x))) := by
  have o := h.ord
  obtain ⟨f, h0, h1, h2, h3, h4, h5, h6, h7⟩ := h.v
  have ne := ne_off w V 0 (.int .u32 (tv x))
  exact ⟨⟨fun o => by simp [f], by simp [go_sem, h0], (ne 1 (by decide)).trans h1, (ne 2 (by decide)).trans h2, (ne 3 (by decide)).trans h3, (ne 4 (by decide)).trans h4, (ne 5 (by decide)).trans h5, (ne 6 (by decide)).trans h6, (ne 7 (by decide)).trans h7⟩, h.s.set (a := ⟨V, 0, none⟩) (by show V ≠ S; omega) _, h.r.set (a := ⟨V, 0, none⟩) (by show V ≠ R; omega) _, words_set h.W (by omega) _, words_set h.k (by omega) _, h.below.setCell (p := ⟨V, 0, none⟩) (by show w0.heap.size ≤ V; omega) _, h.ord⟩
theorem Mx.setV1 {w0 w : World} {V S R g gk : Nat} {v s : V8} {W : List UInt32} (h : Mx w0 V S R g gk v s W w) (x : UInt32) : Mx w0 V S R g gk { v with b := x } s W (w.setCell ⟨V, 1, none⟩ (.int .u32 (tv x))) := by
  have o := h.ord
  obtain ⟨f, h0, h1, h2, h3, h4, h5, h6, h7⟩ := h.v
  have ne := ne_off w V 1 (.int .u32 (tv x))
  exact ⟨⟨fun o => by simp [f], (ne 0 (by decide)).trans h0, by simp [go_sem, h1], (ne 2 (by decide)).trans h2, (ne 3 (by decide)).trans h3, (ne 4 (by decide)).trans h4, (ne 5 (by decide)).trans h5, (ne 6 (by decide)).trans h6, (ne 7 (by decide)).trans h7⟩, h.s.set (a := ⟨V, 1, none⟩) (by show V ≠ S; omega) _, h.r.set (a := ⟨V, 1, none⟩) (by show V ≠ R; omega) _, words_set h.W (by omega) _, words_set h.k (by omega) _, h.below.setCell (p := ⟨V, 1, none⟩) (by show w0.heap.size ≤ V; omega) _, h.ord⟩
theorem Mx.setV2 {w0 w : World} {V S R g gk : Nat} {v s : V8} {W : List UInt32} (h : Mx w0 V S R g gk v s W w) (x : UInt32) : Mx w0 V S R g gk { v with c := x } s W (w.setCell ⟨V, 2, none⟩ (.int .u32 (tv x))) := by
  have o := h.ord
  obtain ⟨f, h0, h1, h2, h3, h4, h5, h6, h7⟩ := h.v
  have ne := ne_off w V 2 (.int .u32 (tv x))
  exact ⟨⟨fun o => by simp [f], (ne 0 (by decide)).trans h0, (ne 1 (by decide)).trans h1, by simp [go_sem, h2], (ne 3 (by decide)).trans h3, (ne 4 (by decide)).trans h4, (ne 5 (by decide)).trans h5, (ne 6 (by decide)).trans h6, (ne 7 (by decide)).trans h7⟩, h.s.set (a := ⟨V, 2, none⟩) (by show V ≠ S; omega) _, h.r.set (a := ⟨V, 2, none⟩) (by show V ≠ R; omega) _, words_set h.W (by omega) _, words_set h.k (by omega) _, h.below.setCell (p := ⟨V, 2, none⟩) (by show w0.heap.size ≤ V; omega) _, h.ord⟩
theorem Mx.setV3 {w0 w : World} {V S R g gk : Nat} {v s : V8} {W : List UInt32} (h : Mx w0 V S R g gk v s W w) (x : UInt32) : Mx w0 V S R g gk { v with d := x } s W (w.setCell ⟨V, 3, none⟩ (.int .u32 (tv x))) := by
  have o := h.ord
  obtain ⟨f, h0, h1, h2, h3, h4, h5, h6, h7⟩ := h.v
  have ne := ne_off w V 3 (.int .u32 (tv x))
  exact ⟨⟨fun o => by simp [f], (ne 0 (by decide)).trans h0, (ne 1 (by decide)).trans h1, (ne 2 (by decide)).trans h2, by simp [go_sem, h3], (ne 4 (by decide)).trans h4, (ne 5 (by decide)).trans h5, (ne 6 (by decide)).trans h6, (ne 7 (by decide)).trans h7⟩, h.s.set (a := ⟨V, 3, none⟩) (by show V ≠ S; omega) _, h.r.set (a := ⟨V, 3, none⟩) (by show V ≠ R; omega) _, words_set h.W (by omega) _, words_set h.k (by omega) _, h.below.setCell (p := ⟨V, 3, none⟩) (by show w0.heap.size ≤ V; omega) _, h.ord⟩
theorem Mx.setV4 {w0 w : World} {V S R g gk : Nat} {v s : V8} {W : List UInt32} (h : Mx w0 V S R g gk v s W w) (x : UInt32) : Mx w0 V S R g gk { v with e := x } s W (w.setCell ⟨V, 4, none⟩ (.int .u32 (tv x))) := by
  have o := h.ord
  obtain ⟨f, h0, h1, h2, h3, h4, h5, h6, h7⟩ := h.v
  have ne := ne_off w V 4 (.int .u32 (tv x))
  exact ⟨⟨fun o => by simp [f], (ne 0 (by decide)).trans h0, (ne 1 (by decide)).trans h1, (ne 2 (by decide)).trans h2, (ne 3 (by decide)).trans h3, by simp [go_sem, h4], (ne 5 (by decide)).trans h5, (ne 6 (by decide)).trans h6, (ne 7 (by decide)).trans h7⟩, h.s.set (a := ⟨V, 4, none⟩) (by show V ≠ S; omega) _, h.r.set (a := ⟨V, 4, none⟩) (by show V ≠ R; omega) _, words_set h.W (by omega) _, words_set h.k (by omega) _, h.below.setCell (p := ⟨V, 4, none⟩) (by show w0.heap.size ≤ V; omega) _, h.ord⟩
theorem Mx.setV5 {w0 w : World} {V S R g gk : Nat} {v s : V8} {W : List UInt32} (h : Mx w0 V S R g gk v s W w) (x : UInt32) : Mx w0 V S R g gk { v with f := x } s W (w.setCell ⟨V, 5, none⟩ (.int .u32 (tv x))) := by
  have o := h.ord
  obtain ⟨f, h0, h1, h2, h3, h4, h5, h6, h7⟩ := h.v
  have ne := ne_off w V 5 (.int .u32 (tv x))
  exact ⟨⟨fun o => by simp [f], (ne 0 (by decide)).trans h0, (ne 1 (by decide)).trans h1, (ne 2 (by decide)).trans h2, (ne 3 (by decide)).trans h3, (ne 4 (by decide)).trans h4, by simp [go_sem, h5], (ne 6 (by decide)).trans h6, (ne 7 (by decide)).trans h7⟩, h.s.set (a := ⟨V, 5, none⟩) (by show V ≠ S; omega) _, h.r.set (a := ⟨V, 5, none⟩) (by show V ≠ R; omega) _, words_set h.W (by omega) _, words_set h.k (by omega) _, h.below.setCell (p := ⟨V, 5, none⟩) (by show w0.heap.size ≤ V; omega) _, h.ord⟩
theorem Mx.setV6 {w0 w : World} {V S R g gk : Nat} {v s : V8} {W : List UInt32} (h : Mx w0 V S R g gk v s W w) (x : UInt32) : Mx w0 V S R g gk { v with g := x } s W (w.setCell ⟨V, 6, none⟩ (.int .u32 (tv x))) := by
  have o := h.ord
  obtain ⟨f, h0, h1, h2, h3, h4, h5, h6, h7⟩ := h.v
  have ne := ne_off w V 6 (.int .u32 (tv x))
  exact ⟨⟨fun o => by simp [f], (ne 0 (by decide)).trans h0, (ne 1 (by decide)).trans h1, (ne 2 (by decide)).trans h2, (ne 3 (by decide)).trans h3, (ne 4 (by decide)).trans h4, (ne 5 (by decide)).trans h5, by simp [go_sem, h6], (ne 7 (by decide)).trans h7⟩, h.s.set (a := ⟨V, 6, none⟩) (by show V ≠ S; omega) _, h.r.set (a := ⟨V, 6, none⟩) (by show V ≠ R; omega) _, words_set h.W (by omega) _, words_set h.k (by omega) _, h.below.setCell (p := ⟨V, 6, none⟩) (by show w0.heap.size ≤ V; omega) _, h.ord⟩
theorem Mx.setV7 {w0 w : World} {V S R g gk : Nat} {v s : V8} {W : List UInt32} (h : Mx w0 V S R g gk v s W w) (x : UInt32) : Mx w0 V S R g gk { v with h := x } s W (w.setCell ⟨V, 7, none⟩ (.int .u32 (tv x))) := by
  have o := h.ord
  obtain ⟨f, h0, h1, h2, h3, h4, h5, h6, h7⟩ := h.v
  have ne := ne_off w V 7 (.int .u32 (tv x))
  exact ⟨⟨fun o => by simp [f], (ne 0 (by decide)).trans h0, (ne 1 (by decide)).trans h1, (ne 2 (by decide)).trans h2, (ne 3 (by decide)).trans h3, (ne 4 (by decide)).trans h4, (ne 5 (by decide)).trans h5, (ne 6 (by decide)).trans h6, by simp [go_sem, h7]⟩, h.s.set (a := ⟨V, 7, none⟩) (by show V ≠ S; omega) _, h.r.set (a := ⟨V, 7, none⟩) (by show V ≠ R; omega) _, words_set h.W (by omega) _, words_set h.k (by omega) _, h.below.setCell (p := ⟨V, 7, none⟩) (by show w0.heap.size ≤ V; omega) _, h.ord⟩
set_option maxRecDepth 10000 in
set_option maxHeartbeats 4000000 in
theorem rmixed_any (v : V8) (bk : ByteArray) (hb : bk.size = 64) (w : World) :
    Calls Tryd.prog 73 #[.agg #[.int .u32 (tv v.a), .int .u32 (tv v.b), .int .u32 (tv v.c), .int .u32 (tv v.d), .int .u32 (tv v.e), .int .u32 (tv v.f), .int .u32 (tv v.g), .int .u32 (tv v.h)], .string bk] w fun e w' => e = .returned (.agg #[.int .u32 (tv (comp v bk.data.toList).a), .int .u32 (tv (comp v bk.data.toList).b), .int .u32 (tv (comp v bk.data.toList).c), .int .u32 (tv (comp v bk.data.toList).d), .int .u32 (tv (comp v bk.data.toList).e), .int .u32 (tv (comp v bk.data.toList).f), .int .u32 (tv (comp v bk.data.toList).g), .int .u32 (tv (comp v bk.data.toList).h)]) ∧ Below w.heap.size w w' := by
  obtain ⟨W0, hW0⟩ : ∃ W, (w.alloc (.cells #[.int .u32 (tv v.a), .int .u32 (tv v.b), .int .u32 (tv v.c), .int .u32 (tv v.d), .int .u32 (tv v.e), .int .u32 (tv v.f), .int .u32 (tv v.g), .int .u32 (tv v.h)] 103)).alloc (.cells #[.int .u32 0, .int .u32 0, .int .u32 0, .int .u32 0, .int .u32 0, .int .u32 0, .int .u32 0, .int .u32 0] 103) = W := ⟨_, rfl⟩
  have L0 : Hid (At8 W0 w.heap.size (.int .u32 (tv v.a)) (.int .u32 (tv v.b)) (.int .u32 (tv v.c)) (.int .u32 (tv v.d)) (.int .u32 (tv v.e)) (.int .u32 (tv v.f)) (.int .u32 (tv v.g)) (.int .u32 (tv v.h)) ∧ At8 W0 (w.heap.size + 1) (.int .u32 0) (.int .u32 0) (.int .u32 0) (.int .u32 0) (.int .u32 0) (.int .u32 0) (.int .u32 0) (.int .u32 0) ∧ Below w.heap.size w W0 ∧ W0.heap.size = w.heap.size + 1 + 1) := by
    rw [← hW0]
    refine ⟨⟨fun o => ?_, ?_, ?_, ?_, ?_, ?_, ?_, ?_, ?_⟩, ⟨fun o => ?_, ?_, ?_, ?_, ?_, ?_, ?_, ?_, ?_⟩, ((Below.refl _ _).alloc (Nat.le_refl _) _).alloc (by simp) _, by simp⟩ <;> simp [go_sem]
  go_enter Tryd.func73, Tryd.ntmps73
  go_wp2_with fail
  refine Calls.mono (rgrown_any bk hb _) ?_
  rintro e w1 ⟨g, cap, rfl, hW, hb1, hg⟩
  have L1 : Hid (At8 w1 w.heap.size (.int .u32 (tv v.a)) (.int .u32 (tv v.b)) (.int .u32 (tv v.c)) (.int .u32 (tv v.d)) (.int .u32 (tv v.e)) (.int .u32 (tv v.f)) (.int .u32 (tv v.g)) (.int .u32 (tv v.h)) ∧ At8 w1 (w.heap.size + 1) (.int .u32 0) (.int .u32 0) (.int .u32 0) (.int .u32 0) (.int .u32 0) (.int .u32 0) (.int .u32 0) (.int .u32 0) ∧ Below w.heap.size w w1 ∧ w.heap.size + 1 < g ∧ g < w1.heap.size ∧ WordsAt w1 g (sch (words bk.data.toList) 48)) := by
    have h0 := L0.out
    refine ⟨h0.1.later hb1, h0.2.1.later hb1, chain h0.2.2.1 hb1, by omega, ?_, hW⟩
    have hl := words_len 16 bk.data.toList (by have : bk.data.toList.length = 64 := by simpa using hb
                                               omega)
    exact World.block_lt_of_cell? _ _ (hW 0 (by rw [sch_len]; omega))
  clear hW hb1 hg L0 hW0
  go_wp2_with fail
  refine Calls.mono (rks_any _) ?_
  rintro e w2 ⟨rfl, hK, hb2⟩
  have L2 : Hid (At8 w2 w.heap.size (.int .u32 (tv v.a)) (.int .u32 (tv v.b)) (.int .u32 (tv v.c)) (.int .u32 (tv v.d)) (.int .u32 (tv v.e)) (.int .u32 (tv v.f)) (.int .u32 (tv v.g)) (.int .u32 (tv v.h)) ∧ At8 w2 (w.heap.size + 1) (.int .u32 0) (.int .u32 0) (.int .u32 0) (.int .u32 0) (.int .u32 0) (.int .u32 0) (.int .u32 0) (.int .u32 0) ∧ Below w.heap.size w w2 ∧ w.heap.size + 1 < g ∧ g < w1.heap.size ∧ WordsAt w2 g (sch (words bk.data.toList) 48) ∧ WordsAt w2 w1.heap.size kst ∧ w1.heap.size < w2.heap.size) := by
    obtain ⟨q1, q2, q3, q4, q5, q6⟩ := L1.out
    exact ⟨q1.later hb2, q2.later hb2, chain q3 hb2, q4, q5, q6.later hb2, hK, World.block_lt_of_cell? _ _ (hK 0 (by decide))⟩
  clear hK hb2 L1
  obtain ⟨gk, hgk⟩ : ∃ x, w1.heap.size = x := ⟨_, rfl⟩
  obtain ⟨U, hU⟩ : ∃ x, sch (words bk.data.toList) 48 = x := ⟨_, rfl⟩
  rw [hgk, hU] at L2
  rw [hgk]
  have HU : Hid (sch (words bk.data.toList) 48 = U ∧ U.length = 64) := ⟨hU, by
    rw [← hU, sch_len, words_len 16 bk.data.toList (by have : bk.data.toList.length = 64 := by simpa using hb
                                                       omega)]⟩
  clear hU hgk
  obtain ⟨v0, v1, v2, v3, v4, v5, v6, v7⟩ := v
  obtain ⟨fz, c0, c1, c2, c3, c4, c5, c6, c7⟩ := L2.out.1
  have fz' := fz
  clear fz
  go_wp2
  have M0 : Hid (Mx w w.heap.size w2.heap.size (w.heap.size + 1) g gk ⟨v0, v1, v2, v3, v4, v5, v6, v7⟩ ⟨v0, v1, v2, v3, v4, v5, v6, v7⟩ U (w2.alloc (.cells #[.int .u32 (tv v0), .int .u32 (tv v1), .int .u32 (tv v2), .int .u32 (tv v3), .int .u32 (tv v4), .int .u32 (tv v5), .int .u32 (tv v6), .int .u32 (tv v7)] 103))) := by
    obtain ⟨q1, q2, q3, q4, q5, q6, q7, q8⟩ := L2.out
    have hb : Below w2.heap.size w2 (w2.alloc (.cells #[.int .u32 (tv v0), .int .u32 (tv v1), .int .u32 (tv v2), .int .u32 (tv v3), .int .u32 (tv v4), .int .u32 (tv v5), .int .u32 (tv v6), .int .u32 (tv v7)] 103)) := (Below.refl _ _).alloc (Nat.le_refl _) _
    refine ⟨q1.later hb, ⟨fun o => by simp [go_sem], ?_, ?_, ?_, ?_, ?_, ?_, ?_, ?_⟩, q2.later hb, q6.later hb, q7.later hb, chain q3 hb, ⟨Nat.le_refl _, by omega, q4, by omega, by omega, q8⟩⟩ <;> simp [go_sem]
  obtain ⟨W3, hW3⟩ : ∃ x, w2.alloc (.cells #[.int .u32 (tv v0), .int .u32 (tv v1), .int .u32 (tv v2), .int .u32 (tv v3), .int .u32 (tv v4), .int .u32 (tv v5), .int .u32 (tv v6), .int .u32 (tv v7)] 103) = x := ⟨_, rfl⟩
  obtain ⟨S, hS⟩ : ∃ x, w2.heap.size = x := ⟨_, rfl⟩
  rw [hW3, hS] at M0
  rw [hW3, hS]
  clear hW3 hS L2 c0 c1 c2 c3 c4 c5 c6 c7 fz'
  go_loopw [8] (fun i wr => ∃ (k : Nat) (s : V8), k ≤ 64 ∧ i = .int .i64 (k : Int) ∧ Hid (Mx w w.heap.size S (w.heap.size + 1) g gk ⟨v0, v1, v2, v3, v4, v5, v6, v7⟩ s U wr ∧ s = rnds ⟨v0, v1, v2, v3, v4, v5, v6, v7⟩ (fun m => U.getD m 0) k)) (fun i _ => 64 - (intOf i).toNat)
  case atStart => exact ⟨0, _, by omega, rfl, M0.out, rfl⟩
  case round =>
    obtain ⟨k, s, hk, rfl, I⟩ := hrel
    by_cases hk64 : k = 64
    · subst hk64
      have FIN : Hid (comp ⟨v0, v1, v2, v3, v4, v5, v6, v7⟩ bk.data.toList = V8.plus ⟨v0, v1, v2, v3, v4, v5, v6, v7⟩ s) := by
        show _ = _
        have e : (fun m => U.getD m 0) = wf (words bk.data.toList) := by rw [← HU.out.1]; rfl
        unfold comp
        rw [I.out.2, e]
      obtain ⟨t0, t1, t2, t3, t4, t5, t6, t7⟩ := s
      have I1 : Hid (Mx w w.heap.size S (w.heap.size + 1) g gk ⟨v0, v1, v2, v3, v4, v5, v6, v7⟩ ⟨t0, t1, t2, t3, t4, t5, t6, t7⟩ U wr) := I.out.1
      clear I M0
      go_wp2
      go_loopw [17] (fun i wx => ∃ j : Nat, j ≤ 8 ∧ i = .int .i64 (j : Int) ∧ Hid (Mx w w.heap.size S (w.heap.size + 1) g gk (plusN ⟨v0, v1, v2, v3, v4, v5, v6, v7⟩ ⟨t0, t1, t2, t3, t4, t5, t6, t7⟩ j) ⟨t0, t1, t2, t3, t4, t5, t6, t7⟩ U wx)) (fun i _ => 8 - (intOf i).toNat)
      case atStart => exact ⟨0, by omega, rfl, I1.out⟩
      case round =>
        obtain ⟨j, hj, rfl, J⟩ := hrel
        have nVS : ¬ w.heap.size = S := by have := J.out.ord; omega
        have nSV : ¬ S = w.heap.size := fun e => nVS e.symm
        rcases (by omega : j = 0 ∨ j = 1 ∨ j = 2 ∨ j = 3 ∨ j = 4 ∨ j = 5 ∨ j = 6 ∨ j = 7 ∨ j = 8) with rfl | rfl | rfl | rfl | rfl | rfl | rfl | rfl | rfl
        · have c : wr.cell? ⟨w.heap.size, 0, none⟩ = some (.int .u32 (tv v0)) := J.out.v.2.1
          have d : wr.cell? ⟨S, 0, none⟩ = some (.int .u32 (tv t0)) := J.out.s.2.1
          have f := J.out.v.1 0
          go_wp2
          go_region
          all_goals
            go_wp2
            go_roundw
            case rel => exact ⟨1, by omega, by go_num, (J.out.drewN 1).setV0 _⟩
            case measure => simp [intOf]
        · have c : wr.cell? ⟨w.heap.size, 1, none⟩ = some (.int .u32 (tv v1)) := J.out.v.2.2.1
          have d : wr.cell? ⟨S, 1, none⟩ = some (.int .u32 (tv t1)) := J.out.s.2.2.1
          have f := J.out.v.1 1
          go_wp2
          go_region
          all_goals
            go_wp2
            go_roundw
            case rel => exact ⟨2, by omega, by go_num, (J.out.drewN 1).setV1 _⟩
            case measure => simp [intOf]
        · have c : wr.cell? ⟨w.heap.size, 2, none⟩ = some (.int .u32 (tv v2)) := J.out.v.2.2.2.1
          have d : wr.cell? ⟨S, 2, none⟩ = some (.int .u32 (tv t2)) := J.out.s.2.2.2.1
          have f := J.out.v.1 2
          go_wp2
          go_region
          all_goals
            go_wp2
            go_roundw
            case rel => exact ⟨3, by omega, by go_num, (J.out.drewN 1).setV2 _⟩
            case measure => simp [intOf]
        · have c : wr.cell? ⟨w.heap.size, 3, none⟩ = some (.int .u32 (tv v3)) := J.out.v.2.2.2.2.1
          have d : wr.cell? ⟨S, 3, none⟩ = some (.int .u32 (tv t3)) := J.out.s.2.2.2.2.1
          have f := J.out.v.1 3
          go_wp2
          go_region
          all_goals
            go_wp2
            go_roundw
            case rel => exact ⟨4, by omega, by go_num, (J.out.drewN 1).setV3 _⟩
            case measure => simp [intOf]
        · have c : wr.cell? ⟨w.heap.size, 4, none⟩ = some (.int .u32 (tv v4)) := J.out.v.2.2.2.2.2.1
          have d : wr.cell? ⟨S, 4, none⟩ = some (.int .u32 (tv t4)) := J.out.s.2.2.2.2.2.1
          have f := J.out.v.1 4
          go_wp2
          go_region
          all_goals
            go_wp2
            go_roundw
            case rel => exact ⟨5, by omega, by go_num, (J.out.drewN 1).setV4 _⟩
            case measure => simp [intOf]
        · have c : wr.cell? ⟨w.heap.size, 5, none⟩ = some (.int .u32 (tv v5)) := J.out.v.2.2.2.2.2.2.1
          have d : wr.cell? ⟨S, 5, none⟩ = some (.int .u32 (tv t5)) := J.out.s.2.2.2.2.2.2.1
          have f := J.out.v.1 5
          go_wp2
          go_region
          all_goals
            go_wp2
            go_roundw
            case rel => exact ⟨6, by omega, by go_num, (J.out.drewN 1).setV5 _⟩
            case measure => simp [intOf]
        · have c : wr.cell? ⟨w.heap.size, 6, none⟩ = some (.int .u32 (tv v6)) := J.out.v.2.2.2.2.2.2.2.1
          have d : wr.cell? ⟨S, 6, none⟩ = some (.int .u32 (tv t6)) := J.out.s.2.2.2.2.2.2.2.1
          have f := J.out.v.1 6
          go_wp2
          go_region
          all_goals
            go_wp2
            go_roundw
            case rel => exact ⟨7, by omega, by go_num, (J.out.drewN 1).setV6 _⟩
            case measure => simp [intOf]
        · have c : wr.cell? ⟨w.heap.size, 7, none⟩ = some (.int .u32 (tv v7)) := J.out.v.2.2.2.2.2.2.2.2
          have d : wr.cell? ⟨S, 7, none⟩ = some (.int .u32 (tv t7)) := J.out.s.2.2.2.2.2.2.2.2
          have f := J.out.v.1 7
          go_wp2
          go_region
          all_goals
            go_wp2
            go_roundw
            case rel => exact ⟨8, by omega, by go_num, (J.out.drewN 1).setV7 _⟩
            case measure => simp [intOf]
        · obtain ⟨fz, c0, c1, c2, c3, c4, c5, c6, c7⟩ := J.out.v
          obtain ⟨fr, d0, d1, d2, d3, d4, d5, d6, d7⟩ := J.out.r
          have nRV : ¬ w.heap.size + 1 = w.heap.size := by omega
          have nVR : ¬ w.heap.size = w.heap.size + 1 := by omega
          change wr.cell? ⟨w.heap.size, 0, none⟩ = some (.int .u32 (tv (v0 + t0))) at c0
          change wr.cell? ⟨w.heap.size, 1, none⟩ = some (.int .u32 (tv (v1 + t1))) at c1
          change wr.cell? ⟨w.heap.size, 2, none⟩ = some (.int .u32 (tv (v2 + t2))) at c2
          change wr.cell? ⟨w.heap.size, 3, none⟩ = some (.int .u32 (tv (v3 + t3))) at c3
          change wr.cell? ⟨w.heap.size, 4, none⟩ = some (.int .u32 (tv (v4 + t4))) at c4
          change wr.cell? ⟨w.heap.size, 5, none⟩ = some (.int .u32 (tv (v5 + t5))) at c5
          change wr.cell? ⟨w.heap.size, 6, none⟩ = some (.int .u32 (tv (v6 + t6))) at c6
          change wr.cell? ⟨w.heap.size, 7, none⟩ = some (.int .u32 (tv (v7 + t7))) at c7
          go_wp2
          refine bodyPost_ret (v := .agg #[.int .u32 (tv (v0 + t0)), .int .u32 (tv (v1 + t1)), .int .u32 (tv (v2 + t2)), .int .u32 (tv (v3 + t3)), .int .u32 (tv (v4 + t4)), .int .u32 (tv (v5 + t5)), .int .u32 (tv (v6 + t6)), .int .u32 (tv (v7 + t7))]) (by simp [results, Tryd.results73, go_sem, *]) rfl ⟨by rw [FIN.out]; rfl, ?_⟩
          exact below_put8 J.out.below (by omega) _ _ _ _ _ _ _ _
    · have hk3 : k < 64 := by omega
      have g1 : (k : Int) < 64 := by omega
      obtain ⟨s0, s1, s2, s3, s4, s5, s6, s7⟩ := s
      obtain ⟨fz, q0, q1, q2, q3, q4, q5, q6, q7⟩ := I.out.1.s
      have KC := I.out.1.k k hk3
      have UC := I.out.1.W k (by have := HU.out.2; omega)
      obtain ⟨kk, hkk⟩ : ∃ x, kst[k]'hk3 = x := ⟨_, rfl⟩
      obtain ⟨uu, huu⟩ : ∃ x, U[k]'(by have := HU.out.2; omega) = x := ⟨_, rfl⟩
      rw [hkk] at KC
      rw [huu] at UC
      have RN : Hid (rnds ⟨v0, v1, v2, v3, v4, v5, v6, v7⟩ (fun m => U.getD m 0) (k + 1) = rnd ⟨s0, s1, s2, s3, s4, s5, s6, s7⟩ kk uu) := by
        show rnd (rnds _ _ k) (kst.getD k 0) (U.getD k 0) = _
        rw [← I.out.2, List.getD_eq_getElem?_getD, List.getElem?_eq_getElem hk3, List.getD_eq_getElem?_getD, List.getElem?_eq_getElem (by have := HU.out.2; omega), ← hkk, ← huu]
        rfl
      have I1 : Hid (Mx w w.heap.size S (w.heap.size + 1) g gk ⟨v0, v1, v2, v3, v4, v5, v6, v7⟩ ⟨s0, s1, s2, s3, s4, s5, s6, s7⟩ U wr) := I.out.1
      have T6 : Hid (∀ w, Calls Tryd.prog 79 #[.int .u32 (tv s4), .int .i64 6] w fun e w' => e = .returned (.int .u32 (tv (trn s4 6))) ∧ ∃ m, w' = w.drewN m) := fun w => rturn_any s4 6 (by decide) (by decide) w
      have T11 : Hid (∀ w, Calls Tryd.prog 79 #[.int .u32 (tv s4), .int .i64 11] w fun e w' => e = .returned (.int .u32 (tv (trn s4 11))) ∧ ∃ m, w' = w.drewN m) := fun w => rturn_any s4 11 (by decide) (by decide) w
      have T25 : Hid (∀ w, Calls Tryd.prog 79 #[.int .u32 (tv s4), .int .i64 25] w fun e w' => e = .returned (.int .u32 (tv (trn s4 25))) ∧ ∃ m, w' = w.drewN m) := fun w => rturn_any s4 25 (by decide) (by decide) w
      have T2 : Hid (∀ w, Calls Tryd.prog 79 #[.int .u32 (tv s0), .int .i64 2] w fun e w' => e = .returned (.int .u32 (tv (trn s0 2))) ∧ ∃ m, w' = w.drewN m) := fun w => rturn_any s0 2 (by decide) (by decide) w
      have T13 : Hid (∀ w, Calls Tryd.prog 79 #[.int .u32 (tv s0), .int .i64 13] w fun e w' => e = .returned (.int .u32 (tv (trn s0 13))) ∧ ∃ m, w' = w.drewN m) := fun w => rturn_any s0 13 (by decide) (by decide) w
      have T22 : Hid (∀ w, Calls Tryd.prog 79 #[.int .u32 (tv s0), .int .i64 22] w fun e w' => e = .returned (.int .u32 (tv (trn s0 22))) ∧ ∃ m, w' = w.drewN m) := fun w => rturn_any s0 22 (by decide) (by decide) w
      clear hkk huu I M0
      go_wp2
      go_quiet (fail)
      go_wp2
      go_region_held3 (fun w' => w'.cell? ⟨S, 7, none⟩ = some (.int .u32 (tv s7)) ∧ w'.cell? ⟨gk, k, none⟩ = some (.int .u32 (tv kk)) ∧ w'.cell? ⟨g, k, none⟩ = some (.int .u32 (tv uu))) (first | exact ⟨q7, KC, UC⟩) (first | (go_at_call 79; revert T6; intro T6; refine Calls.mono (T6.out _) ?_; rintro e w6 ⟨rfl, n6, rfl⟩; clear T6) | (go_at_call 79; revert T11; intro T11; refine Calls.mono (T11.out _) ?_; rintro e w11 ⟨rfl, n11, rfl⟩; clear T11) | (go_at_call 79; refine Calls.mono (T25.out _) ?_; rintro e w25 ⟨rfl, n25, rfl⟩))
      obtain ⟨T, hT⟩ : ∃ T, s7 + (trn s4 6 ^^^ trn s4 11 ^^^ trn s4 25) + ((s4 &&& s5) ^^^ (~~~s4 &&& s6)) + kk + uu = T := ⟨_, rfl⟩
      rw [hT]
      have HT : Hid (s7 + turned s4 6 11 25 + ((s4 &&& s5) ^^^ (~~~s4 &&& s6)) + kk + uu = T) := hT
      clear hT T25 KC UC
      go_wp2_with fail
      refine Calls.mono (T2.out _) ?_
      rintro e wa ⟨rfl, na, rfl⟩
      clear T2
      go_wp2_with fail
      refine Calls.mono (T13.out _) ?_
      rintro e wb ⟨rfl, nb, rfl⟩
      clear T13
      go_wp2_with fail
      refine Calls.mono (T22.out _) ?_
      rintro e wc ⟨rfl, nc, rfl⟩
      clear T22
      go_wp2
      go_roundw
      case rel =>
        refine ⟨k + 1, ⟨T + (turned s0 2 13 22 + ((s0 &&& s1) ^^^ (s0 &&& s2) ^^^ (s1 &&& s2))), s0, s1, s2, s3 + T, s4, s5, s6⟩, by omega, by go_num, ?_, ?_⟩
        · exact (I1.out.drewN _).setS ⟨T + (turned s0 2 13 22 + ((s0 &&& s1) ^^^ (s0 &&& s2) ^^^ (s1 &&& s2))), s0, s1, s2, s3 + T, s4, s5, s6⟩
        · rw [RN.out]
          unfold rnd
          simp only
          rw [HT.out]
      case measure => simp [intOf]; omega
end Go.Proofs.YtbogoheigbiegaaDoor
