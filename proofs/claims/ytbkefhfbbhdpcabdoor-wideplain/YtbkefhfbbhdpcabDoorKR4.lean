/- What mixed of the document does. -/
import Derived.Test.YtbkefhfbbhdpcabDoorKR3
import Derived.Test.YtbkefhfbbhdpcabDoorK3
namespace Go.Proofs.YtbkefhfbbhdpcabDoor
open Go.RowKit Go.Proofs.Fd Go.Proofs.Hs
attribute [local go_sem] not32 and32 or32 xor32 add32 add32'

theorem at8_whole {w : World} {b : Nat} {x0 x1 x2 x3 x4 x5 x6 x7 : Value} (h : At8 w b x0 x1 x2 x3 x4 x5 x6 x7) (y0 y1 y2 y3 y4 y5 y6 y7 : Value) : At8 ((((((((w.setCell ⟨b, 0, none⟩ y0).setCell ⟨b, 1, none⟩ y1).setCell ⟨b, 2, none⟩ y2).setCell ⟨b, 3, none⟩ y3).setCell ⟨b, 4, none⟩ y4).setCell ⟨b, 5, none⟩ y5).setCell ⟨b, 6, none⟩ y6).setCell ⟨b, 7, none⟩ y7) b y0 y1 y2 y3 y4 y5 y6 y7 := by
  obtain ⟨f, h0, h1, h2, h3, h4, h5, h6, h7⟩ := h
  refine ⟨fun o => by simp [go_sem, f], ?_, ?_, ?_, ?_, ?_, ?_, ?_, ?_⟩ <;> simp [go_sem, h0, h1, h2, h3, h4, h5, h6, h7]
theorem at8_put {w : World} {b c : Nat} {x0 x1 x2 x3 x4 x5 x6 x7 : Value} (h : At8 w b x0 x1 x2 x3 x4 x5 x6 x7) (hne : c ≠ b) (y0 y1 y2 y3 y4 y5 y6 y7 : Value) : At8 ((((((((w.setCell ⟨c, 0, none⟩ y0).setCell ⟨c, 1, none⟩ y1).setCell ⟨c, 2, none⟩ y2).setCell ⟨c, 3, none⟩ y3).setCell ⟨c, 4, none⟩ y4).setCell ⟨c, 5, none⟩ y5).setCell ⟨c, 6, none⟩ y6).setCell ⟨c, 7, none⟩ y7) b x0 x1 x2 x3 x4 x5 x6 x7 :=
  ((((((((h.set (a := ⟨c, 0, none⟩) hne _).set (a := ⟨c, 1, none⟩) hne _).set (a := ⟨c, 2, none⟩) hne _).set (a := ⟨c, 3, none⟩) hne _).set (a := ⟨c, 4, none⟩) hne _).set (a := ⟨c, 5, none⟩) hne _).set (a := ⟨c, 6, none⟩) hne _).set (a := ⟨c, 7, none⟩) hne _)
theorem below_put8 {B : Nat} {a w : World} (h : Below B a w) {c : Nat} (hc : B ≤ c) (y0 y1 y2 y3 y4 y5 y6 y7 : Value) : Below B a ((((((((w.setCell ⟨c, 0, none⟩ y0).setCell ⟨c, 1, none⟩ y1).setCell ⟨c, 2, none⟩ y2).setCell ⟨c, 3, none⟩ y3).setCell ⟨c, 4, none⟩ y4).setCell ⟨c, 5, none⟩ y5).setCell ⟨c, 6, none⟩ y6).setCell ⟨c, 7, none⟩ y7) :=
  ((((((((h.setCell (p := ⟨c, 0, none⟩) hc _).setCell (p := ⟨c, 1, none⟩) hc _).setCell (p := ⟨c, 2, none⟩) hc _).setCell (p := ⟨c, 3, none⟩) hc _).setCell (p := ⟨c, 4, none⟩) hc _).setCell (p := ⟨c, 5, none⟩) hc _).setCell (p := ⟨c, 6, none⟩) hc _).setCell (p := ⟨c, 7, none⟩) hc _)
theorem words_put {w : World} {g c : Nat} {l : List UInt32} (h : WordsAt w g l) (hne : c ≠ g) (y0 y1 y2 y3 y4 y5 y6 y7 : Value) : WordsAt ((((((((w.setCell ⟨c, 0, none⟩ y0).setCell ⟨c, 1, none⟩ y1).setCell ⟨c, 2, none⟩ y2).setCell ⟨c, 3, none⟩ y3).setCell ⟨c, 4, none⟩ y4).setCell ⟨c, 5, none⟩ y5).setCell ⟨c, 6, none⟩ y6).setCell ⟨c, 7, none⟩ y7) g l := fun j hj =>
  cell_setCell (cell_setCell (cell_setCell (cell_setCell (cell_setCell (cell_setCell (cell_setCell (cell_setCell (h j hj) hne) hne) hne) hne) hne) hne) hne) hne
theorem words_set {w : World} {g c o : Nat} {l : List UInt32} (h : WordsAt w g l) (hne : c ≠ g) (v : Value) : WordsAt (w.setCell ⟨c, o, none⟩ v) g l := fun j hj => cell_setCell (h j hj) hne
theorem at8_drewN {w : World} {b : Nat} {x0 x1 x2 x3 x4 x5 x6 x7 : Value} (h : At8 w b x0 x1 x2 x3 x4 x5 x6 x7) (n : Nat) : At8 (w.drewN n) b x0 x1 x2 x3 x4 x5 x6 x7 := h
theorem words_drewN {w : World} {g : Nat} {l : List UInt32} (h : WordsAt w g l) (n : Nat) : WordsAt (w.drewN n) g l := h

/-- What is known of the memory while a block is mixed in. -/
structure Mx (w0 : World) (V S R g gk : Nat) (v s : V8) (W : List UInt32) (w : World) : Prop where
  v : At8 w V (.int .u32 (tv v.a)) (.int .u32 (tv v.b)) (.int .u32 (tv v.c)) (.int .u32 (tv v.d)) (.int .u32 (tv v.e)) (.int .u32 (tv v.f)) (.int .u32 (tv v.g)) (.int .u32 (tv v.h))
  s : At8 w S (.int .u32 (tv s.a)) (.int .u32 (tv s.b)) (.int .u32 (tv s.c)) (.int .u32 (tv s.d)) (.int .u32 (tv s.e)) (.int .u32 (tv s.f)) (.int .u32 (tv s.g)) (.int .u32 (tv s.h))
  r : At8 w R (.int .u32 0) (.int .u32 0) (.int .u32 0) (.int .u32 0) (.int .u32 0) (.int .u32 0) (.int .u32 0) (.int .u32 0)
  W : WordsAt w g W
  k : WordsAt w gk kst
  below : Below w0.heap.size w0 w
  ord : w0.heap.size ≤ V ∧ V < R ∧ R < g ∧ R < gk ∧ g < S ∧ gk < S

theorem Mx.drewN {w0 w : World} {V S R g gk : Nat} {v s : V8} {W : List UInt32} (h : Mx w0 V S R g gk v s W w) (n : Nat) : Mx w0 V S R g gk v s W (w.drewN n) := ⟨h.v, h.s, h.r, h.W, h.k, below_drewN h.below n, h.ord⟩
theorem Mx.setS {w0 w : World} {V S R g gk : Nat} {v s : V8} {W : List UInt32} (h : Mx w0 V S R g gk v s W w) (t : V8) : Mx w0 V S R g gk v t W ((((((((w.setCell ⟨S, 0, none⟩ (.int .u32 (tv t.a))).setCell ⟨S, 1, none⟩ (.int .u32 (tv t.b))).setCell ⟨S, 2, none⟩ (.int .u32 (tv t.c))).setCell ⟨S, 3, none⟩ (.int .u32 (tv t.d))).setCell ⟨S, 4, none⟩ (.int .u32 (tv t.e))).setCell ⟨S, 5, none⟩ (.int .u32 (tv t.f))).setCell ⟨S, 6, none⟩ (.int .u32 (tv t.g))).setCell ⟨S, 7, none⟩ (.int .u32 (tv t.h))) := by
  have o := h.ord
  exact ⟨at8_put h.v (by omega) _ _ _ _ _ _ _ _, at8_whole h.s _ _ _ _ _ _ _ _, at8_put h.r (by omega) _ _ _ _ _ _ _ _, words_put h.W (by omega) _ _ _ _ _ _ _ _, words_put h.k (by omega) _ _ _ _ _ _ _ _, below_put8 h.below (by omega) _ _ _ _ _ _ _ _, h.ord⟩
theorem Mx.setV0 {w0 w : World} {V S R g gk : Nat} {v s : V8} {W : List UInt32} (h : Mx w0 V S R g gk v s W w) (x : UInt32) : Mx w0 V S R g gk { v with a := x } s W (w.setCell ⟨V, 0, none⟩ (.int .u32 (tv x))) := by
  have o := h.ord
  obtain ⟨f, h0, h1, h2, h3, h4, h5, h6, h7⟩ := h.v
  have ne := ne_off w V 0 (.int .u32 (tv x))
  exact ⟨⟨fun o => by simp [f], by simp [go_sem, h0], (ne 1 (by decide)).trans h1, (ne 2 (by decide)).trans h2, (ne 3 (by decide)).trans h3, (ne 4 (by decide)).trans h4, (ne 5 (by decide)).trans h5, (ne 6 (by decide)).trans h6, (ne 7 (by decide)).trans h7⟩, h.s.set (a := ⟨V, 0, none⟩) (by show V ≠ S; omega) _, h.r.set (a := ⟨V, 0, none⟩) (by show V ≠ R; omega) _, words_set h.W (by omega) _, words_set h.k (by omega) _, h.below.setCell (p := ⟨V, 0, none⟩) (by show w0.heap.size ≤ V; omega) _, h.ord⟩
theorem Mx.setV1 {w0 w : World} {V S R g gk : Nat} {v s : V8} {W : List UInt32} (h : Mx w0 V S R g gk v s W w) (x : UInt32) : Mx w0 V S R g gk { v with b := x } s W (w.setCell ⟨V, 1, none⟩ (.int .u32 (tv x))) := by
  have o := h.ord
  obtain ⟨f, h0, h1, h2, h3, h4, h5, h6, h7⟩ := h.v
  have ne := ne_off w V 1 (.int .u32 (tv x))
  exact ⟨⟨fun o => by simp [f], (ne 0 (by decide)).trans h0, by simp [go_sem, h1], (ne 2 (by decide)).trans h2, (ne 3 (by decide)).trans h3, (ne 4 (by decide)).trans h4, (ne 5 (by decide)).trans h5, (ne 6 (by decide)).trans h6, (ne 7 (by decide)).trans h7⟩, h.s.set (a := ⟨V, 1, none⟩) (by show V ≠ S; omega) _, h.r.set (a := ⟨V, 1, none⟩) (by show V ≠ R; omega) _, words_set h.W (by omega) _, words_set h.k (by omega) _, h.below.setCell (p := ⟨V, 1, none⟩) (by show w0.heap.size ≤ V; omega) _, h.ord⟩
theorem Mx.setV2 {w0 w : World} {V S R g gk : Nat} {v s : V8} {W : List UInt32} (h : Mx w0 V S R g gk v s W w) (x : UInt32) : Mx w0 V S R g gk { v with c := x } s W (w.setCell ⟨V, 2, none⟩ (.int .u32 (tv x))) := by
  have o := h.ord
  obtain ⟨f, h0, h1, h2, h3, h4, h5, h6, h7⟩ := h.v
  have ne := ne_off w V 2 (.int .u32 (tv x))
  exact ⟨⟨fun o => by simp [f], (ne 0 (by decide)).trans h0, (ne 1 (by decide)).trans h1, by simp [go_sem, h2], (ne 3 (by decide)).trans h3, (ne 4 (by decide)).trans h4, (ne 5 (by decide)).trans h5, (ne 6 (by decide)).trans h6, (ne 7 (by decide)).trans h7⟩, h.s.set (a := ⟨V, 2, none⟩) (by show V ≠ S; omega) _, h.r.set (a := ⟨V, 2, none⟩) (by show V ≠ R; omega) _, words_set h.W (by omega) _, words_set h.k (by omega) _, h.below.setCell (p := ⟨V, 2, none⟩) (by show w0.heap.size ≤ V; omega) _, h.ord⟩
theorem Mx.setV3 {w0 w : World} {V S R g gk : Nat} {v s : V8} {W : List UInt32} (h : Mx w0 V S R g gk v s W w) (x : UInt32) : Mx w0 V S R g gk { v with d := x } s W (w.setCell ⟨V, 3, none⟩ (.int .u32 (tv x))) := by
  have o := h.ord
  obtain ⟨f, h0, h1, h2, h3, h4, h5, h6, h7⟩ := h.v
  have ne := ne_off w V 3 (.int .u32 (tv x))
  exact ⟨⟨fun o => by simp [f], (ne 0 (by decide)).trans h0, (ne 1 (by decide)).trans h1, (ne 2 (by decide)).trans h2, by simp [go_sem, h3], (ne 4 (by decide)).trans h4, (ne 5 (by decide)).trans h5, (ne 6 (by decide)).trans h6, (ne 7 (by decide)).trans h7⟩, h.s.set (a := ⟨V, 3, none⟩) (by show V ≠ S; omega) _, h.r.set (a := ⟨V, 3, none⟩) (by show V ≠ R; omega) _, words_set h.W (by omega) _, words_set h.k (by omega) _, h.below.setCell (p := ⟨V, 3, none⟩) (by show w0.heap.size ≤ V; omega) _, h.ord⟩
theorem Mx.setV4 {w0 w : World} {V S R g gk : Nat} {v s : V8} {W : List UInt32} (h : Mx w0 V S R g gk v s W w) (x : UInt32) : Mx w0 V S R g gk { v with e := x } s W (w.setCell ⟨V, 4, none⟩ (.int .u32 (tv x))) := by
  have o := h.ord
  obtain ⟨f, h0, h1, h2, h3, h4, h5, h6, h7⟩ := h.v
  have ne := ne_off w V 4 (.int .u32 (tv x))
  exact ⟨⟨fun o => by simp [f], (ne 0 (by decide)).trans h0, (ne 1 (by decide)).trans h1, (ne 2 (by decide)).trans h2, (ne 3 (by decide)).trans h3, by simp [go_sem, h4], (ne 5 (by decide)).trans h5, (ne 6 (by decide)).trans h6, (ne 7 (by decide)).trans h7⟩, h.s.set (a := ⟨V, 4, none⟩) (by show V ≠ S; omega) _, h.r.set (a := ⟨V, 4, none⟩) (by show V ≠ R; omega) _, words_set h.W (by omega) _, words_set h.k (by omega) _, h.below.setCell (p := ⟨V, 4, none⟩) (by show w0.heap.size ≤ V; omega) _, h.ord⟩
theorem Mx.setV5 {w0 w : World} {V S R g gk : Nat} {v s : V8} {W : List UInt32} (h : Mx w0 V S R g gk v s W w) (x : UInt32) : Mx w0 V S R g gk { v with f := x } s W (w.setCell ⟨V, 5, none⟩ (.int .u32 (tv x))) := by
  have o := h.ord
  obtain ⟨f, h0, h1, h2, h3, h4, h5, h6, h7⟩ := h.v
  have ne := ne_off w V 5 (.int .u32 (tv x))
  exact ⟨⟨fun o => by simp [f], (ne 0 (by decide)).trans h0, (ne 1 (by decide)).trans h1, (ne 2 (by decide)).trans h2, (ne 3 (by decide)).trans h3, (ne 4 (by decide)).trans h4, by simp [go_sem, h5], (ne 6 (by decide)).trans h6, (ne 7 (by decide)).trans h7⟩, h.s.set (a := ⟨V, 5, none⟩) (by show V ≠ S; omega) _, h.r.set (a := ⟨V, 5, none⟩) (by show V ≠ R; omega) _, words_set h.W (by omega) _, words_set h.k (by omega) _, h.below.setCell (p := ⟨V, 5, none⟩) (by show w0.heap.size ≤ V; omega) _, h.ord⟩
theorem Mx.setV6 {w0 w : World} {V S R g gk : Nat} {v s : V8} {W : List UInt32} (h : Mx w0 V S R g gk v s W w) (x : UInt32) : Mx w0 V S R g gk { v with g := x } s W (w.setCell ⟨V, 6, none⟩ (.int .u32 (tv x))) := by
  have o := h.ord
  obtain ⟨f, h0, h1, h2, h3, h4, h5, h6, h7⟩ := h.v
  have ne := ne_off w V 6 (.int .u32 (tv x))
  exact ⟨⟨fun o => by simp [f], (ne 0 (by decide)).trans h0, (ne 1 (by decide)).trans h1, (ne 2 (by decide)).trans h2, (ne 3 (by decide)).trans h3, (ne 4 (by decide)).trans h4, (ne 5 (by decide)).trans h5, by simp [go_sem, h6], (ne 7 (by decide)).trans h7⟩, h.s.set (a := ⟨V, 6, none⟩) (by show V ≠ S; omega) _, h.r.set (a := ⟨V, 6, none⟩) (by show V ≠ R; omega) _, words_set h.W (by omega) _, words_set h.k (by omega) _, h.below.setCell (p := ⟨V, 6, none⟩) (by show w0.heap.size ≤ V; omega) _, h.ord⟩
theorem Mx.setV7 {w0 w : World} {V S R g gk : Nat} {v s : V8} {W : List UInt32} (h : Mx w0 V S R g gk v s W w) (x : UInt32) : Mx w0 V S R g gk { v with h := x } s W (w.setCell ⟨V, 7, none⟩ (.int .u32 (tv x))) := by
  have o := h.ord
  obtain ⟨f, h0, h1, h2, h3, h4, h5, h6, h7⟩ := h.v
  have ne := ne_off w V 7 (.int .u32 (tv x))
  exact ⟨⟨fun o => by simp [f], (ne 0 (by decide)).trans h0, (ne 1 (by decide)).trans h1, (ne 2 (by decide)).trans h2, (ne 3 (by decide)).trans h3, (ne 4 (by decide)).trans h4, (ne 5 (by decide)).trans h5, (ne 6 (by decide)).trans h6, by simp [go_sem, h7]⟩, h.s.set (a := ⟨V, 7, none⟩) (by show V ≠ S; omega) _, h.r.set (a := ⟨V, 7, none⟩) (by show V ≠ R; omega) _, words_set h.W (by omega) _, words_set h.k (by omega) _, h.below.setCell (p := ⟨V, 7, none⟩) (by show w0.heap.size ≤ V; omega) _, h.ord⟩

end Go.Proofs.YtbkefhfbbhdpcabDoor
