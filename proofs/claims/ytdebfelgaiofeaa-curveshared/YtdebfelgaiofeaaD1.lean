/- The document's numbers as elements: sums, differences, products, inverses. -/
import Derived.Test.YtdebfelgaiofeaaR9
import Derived.Test.YtdebfelgaiofeaaME
import Derived.Deep.MidRow
import Derived.Lib.LazyBuf
import Derived.Deep.RegionHeld3
import Derived.Deep.DeepCutAuto
namespace Go.Proofs.Ytdebfelgaiofeaa
open Go.RowKit Go.Proofs.Fd Go.Proofs.Ed

/-- The digits of an element. -/
def dk (c : Nat → Int) (a : K) : Prop := dig c a.val
/-- Ten digits as cells. -/
def nl (f : Nat → Int) : List Value := [.int .i64 (f 0), .int .i64 (f 1), .int .i64 (f 2), .int .i64 (f 3), .int .i64 (f 4), .int .i64 (f 5), .int .i64 (f 6), .int .i64 (f 7), .int .i64 (f 8), .int .i64 (f 9)]
theorem nl_len (f : Nat → Int) : (nl f).length = 10 := rfl
theorem nl_one (f : Nat → Int) : ∀ v ∈ nl f, v.oneCell' = true := by
  intro v hv
  simp only [nl, List.mem_cons, List.not_mem_nil, or_false] at hv
  rcases hv with rfl | rfl | rfl | rfl | rfl | rfl | rfl | rfl | rfl | rfl <;> rfl

theorem sub_val (a b : K) : (a - b).val = (a.val + p - b.val) % p := by
  have h1 := a.isLt; have h2 := b.isLt
  show ((q - b.val) + a.val) % q = _
  congr 1
  show q - b.val + a.val = a.val + q - b.val
  omega

theorem kPlus (f g : Nat → Int) (a b : K) (hf : Hid (dk f a)) (hg : Hid (dk g b)) (w : World) :
    Calls Try.prog 40 #[.agg (nl f).toArray, .agg (nl g).toArray] w fun e w' => ∃ c : Nat → Int, e = .returned (.agg (nl c).toArray) ∧ dk c (a + b) ∧ Below w.heap.size w w' := rPlus f g a.val b.val hf hg w

theorem kLess (f g : Nat → Int) (a b : K) (hf : Hid (dk f a)) (hg : Hid (dk g b)) (w : World) :
    Calls Try.prog 57 #[.agg (nl f).toArray, .agg (nl g).toArray] w fun e w' => ∃ c : Nat → Int, e = .returned (.agg (nl c).toArray) ∧ dk c (a - b) ∧ Below w.heap.size w w' := by
  have h := rLess f g a.val b.val hf hg b.isLt w
  rw [← sub_val] at h
  exact h

theorem kTimes (f g : Nat → Int) (a b : K) (hf : Hid (dk f a)) (hg : Hid (dk g b)) (w : World) :
    Calls Try.prog 41 #[.agg (nl f).toArray, .agg (nl g).toArray] w fun e w' => ∃ c : Nat → Int, e = .returned (.agg (nl c).toArray) ∧ dk c (a * b) ∧ Below w.heap.size w w' := rTimes f g a.val b.val hf hg w

theorem kInverse (f : Nat → Int) (a : K) (hf : Hid (dk f a)) (w : World) :
    Calls Try.prog 44 #[.agg (nl f).toArray] w fun e w' => ∃ c : Nat → Int, e = .returned (.agg (nl c).toArray) ∧ dk c (kinv a) ∧ Below w.heap.size w w' := Inverse_any f a.val hf w

theorem kBytes (f : Nat → Int) (a : K) (hf : Hid (dk f a)) (w : World) :
    Calls Try.prog 26 #[.agg (nl f).toArray] w fun e w' => e = .returned (.string (enc a.val)) ∧ Below w.heap.size w w' := Bytes_any f a.val hf (Nat.lt_trans a.isLt p_lt) w

theorem kOne (w : World) : Calls Try.prog 42 #[] w fun e w' => e = .returned (.agg (nl od1).toArray) ∧ Below w.heap.size w w' := One_any w
theorem dk_one : dk od1 1 := od1_dig

/-- Ranges that lie in a world. -/
def Rg (w : World) (L : List (Nat × Nat × List Value)) : Prop := ∀ x ∈ L, w.rangeAt x.1 x.2.1 x.2.2

theorem range_later {W w1 : World} {b o : Nat} {cs : List Value} (h : W.rangeAt b o cs) (hb : Below W.heap.size W w1) : w1.rangeAt b o cs := fun j v hv => cell_later hb (h j v hv)
theorem Rg.later {W w1 : World} {L : List (Nat × Nat × List Value)} (h : Rg W L) (hb : Below W.heap.size W w1) : Rg w1 L := fun x hx => range_later (h x hx) hb
theorem range_new (w : World) (cs : List Value) (t : TypeId) : (w.alloc (.cells cs.toArray t)).rangeAt w.heap.size 0 cs := fun j v hv => by
  rw [Nat.zero_add, World.cell?_alloc_new]; simpa using hv
theorem Rg.new {w : World} {L : List (Nat × Nat × List Value)} (h : Rg w L) (cs : List Value) (t : TypeId) : Rg (w.alloc (.cells cs.toArray t)) ((w.heap.size, 0, cs) :: L) := fun x hx => by
  rcases List.mem_cons.1 hx with rfl | hx
  · exact range_new w cs t
  · exact World.rangeAt_alloc (h x hx) _
theorem range_fst {w : World} {b : Nat} {xs zs : List Value} (h : w.rangeAt b 0 (xs ++ zs)) : w.rangeAt b 0 xs := fun j v hv => h j v (by
  rw [List.getElem?_append_left (List.getElem?_eq_some_iff.1 hv).1]; exact hv)
theorem range_snd {w : World} {b n : Nat} {xs zs : List Value} (h : w.rangeAt b 0 (xs ++ zs)) (hn : xs.length = n) : w.rangeAt b n zs := fun j v hv => by
  have := h (n + j) v (by rw [List.getElem?_append_right (by omega), ← hn]; simpa using hv)
  rwa [Nat.zero_add] at this

theorem sizeNum : (Try.prog.info? 42).map (·.size) = some 10 := by kernel_rfl
theorem sizePair : (Try.prog.info? 64).map (·.size) = some 20 := by kernel_rfl
theorem ldN {w : World} {b o : Nat} {f : Nat → Int} (h : w.rangeAt b o (nl f)) : (Instr.loadAt 42 (.pointer (some ⟨b, o, none⟩))).run Try.prog w = .ok (.agg (nl f).toArray) w :=
  run_loadAt_mid w b o 42 (nl f) _ h Try.underlying42 rfl sizeNum
theorem ldP {w : World} {b : Nat} {f g : Nat → Int} (h : w.rangeAt b 0 (nl f ++ nl g)) : (Instr.loadAt 64 (.pointer (some ⟨b, 0, none⟩))).run Try.prog w = .ok (.agg (nl f ++ nl g).toArray) w :=
  run_loadAt_mid w b 0 64 (nl f ++ nl g) _ h Try.underlying64 rfl sizePair

theorem cells0 {w : World} {b : Nat} {f : Nat → Int} (h : w.rangeAt b 0 (nl f)) : w.cell? ⟨b, 0, none⟩ = some (.int .i64 (f 0)) ∧ w.cell? ⟨b, 1, none⟩ = some (.int .i64 (f 1)) ∧ w.cell? ⟨b, 2, none⟩ = some (.int .i64 (f 2)) ∧ w.cell? ⟨b, 3, none⟩ = some (.int .i64 (f 3)) ∧ w.cell? ⟨b, 4, none⟩ = some (.int .i64 (f 4)) ∧ w.cell? ⟨b, 5, none⟩ = some (.int .i64 (f 5)) ∧ w.cell? ⟨b, 6, none⟩ = some (.int .i64 (f 6)) ∧ w.cell? ⟨b, 7, none⟩ = some (.int .i64 (f 7)) ∧ w.cell? ⟨b, 8, none⟩ = some (.int .i64 (f 8)) ∧ w.cell? ⟨b, 9, none⟩ = some (.int .i64 (f 9)) :=
  ⟨h 0 _ rfl, h 1 _ rfl, h 2 _ rfl, h 3 _ rfl, h 4 _ rfl, h 5 _ rfl, h 6 _ rfl, h 7 _ rfl, h 8 _ rfl, h 9 _ rfl⟩
theorem cells10 {w : World} {b : Nat} {f : Nat → Int} (h : w.rangeAt b 10 (nl f)) : w.cell? ⟨b, 10, none⟩ = some (.int .i64 (f 0)) ∧ w.cell? ⟨b, 11, none⟩ = some (.int .i64 (f 1)) ∧ w.cell? ⟨b, 12, none⟩ = some (.int .i64 (f 2)) ∧ w.cell? ⟨b, 13, none⟩ = some (.int .i64 (f 3)) ∧ w.cell? ⟨b, 14, none⟩ = some (.int .i64 (f 4)) ∧ w.cell? ⟨b, 15, none⟩ = some (.int .i64 (f 5)) ∧ w.cell? ⟨b, 16, none⟩ = some (.int .i64 (f 6)) ∧ w.cell? ⟨b, 17, none⟩ = some (.int .i64 (f 7)) ∧ w.cell? ⟨b, 18, none⟩ = some (.int .i64 (f 8)) ∧ w.cell? ⟨b, 19, none⟩ = some (.int .i64 (f 9)) :=
  ⟨h 0 _ rfl, h 1 _ rfl, h 2 _ rfl, h 3 _ rfl, h 4 _ rfl, h 5 _ rfl, h 6 _ rfl, h 7 _ rfl, h 8 _ rfl, h 9 _ rfl⟩

theorem store_new (w : World) (f : Nat → Int) (t : TypeId) : (storeCells ⟨w.heap.size, 0, none⟩ (nl f)).run Try.prog (w.alloc (.cells #[.int .i64 0, .int .i64 0, .int .i64 0, .int .i64 0, .int .i64 0, .int .i64 0, .int .i64 0, .int .i64 0, .int .i64 0, .int .i64 0] t)) = .ok () (w.alloc (.cells (nl f).toArray t)) := by
  simp [nl, storeCells, go_sem]
theorem pair_build (f g : Nat → Int) (w : World) : (Instr.build 64 #[(0, .agg (nl f).toArray), (1, .agg (nl g).toArray)]).run Try.prog w = .ok (.agg (nl f ++ nl g).toArray) w := by kernel_rfl
theorem const_build (w : World) : (Instr.build 42 #[(0, .int .i64 121665)]).run Try.prog w = .ok (.agg (nl (lowd 121665)).toArray) w := by kernel_rfl

theorem there_later {W w1 : World} {b o n : Nat} (h : W.there b o n) (hb : Below W.heap.size W w1) : w1.there b o n := fun j hj => by
  obtain ⟨h1, h2⟩ := h j hj
  obtain ⟨v, hv⟩ := Option.isSome_iff_exists.1 h1
  exact ⟨by rw [cell_later hb hv]; rfl, (frozen_kept hb (World.block_lt_of_cell? _ _ hv)).trans h2⟩
theorem there10 (w : World) (t : TypeId) : (w.alloc (.cells #[.int .i64 0, .int .i64 0, .int .i64 0, .int .i64 0, .int .i64 0, .int .i64 0, .int .i64 0, .int .i64 0, .int .i64 0, .int .i64 0] t)).there w.heap.size 0 10 := fun j hj => by
  refine ⟨?_, by simp [go_sem]⟩
  rw [Nat.zero_add, World.cell?_alloc_new]
  have : j = 0 ∨ j = 1 ∨ j = 2 ∨ j = 3 ∨ j = 4 ∨ j = 5 ∨ j = 6 ∨ j = 7 ∨ j = 8 ∨ j = 9 := by omega
  rcases this with rfl | rfl | rfl | rfl | rfl | rfl | rfl | rfl | rfl | rfl <;> rfl
theorem there20 (w : World) (t : TypeId) : (w.alloc (.cells #[.int .i64 0, .int .i64 0, .int .i64 0, .int .i64 0, .int .i64 0, .int .i64 0, .int .i64 0, .int .i64 0, .int .i64 0, .int .i64 0, .int .i64 0, .int .i64 0, .int .i64 0, .int .i64 0, .int .i64 0, .int .i64 0, .int .i64 0, .int .i64 0, .int .i64 0, .int .i64 0] t)).there w.heap.size 0 20 := fun j hj => by
  refine ⟨?_, by simp [go_sem]⟩
  rw [Nat.zero_add, World.cell?_alloc_new]
  have : j = 0 ∨ j = 1 ∨ j = 2 ∨ j = 3 ∨ j = 4 ∨ j = 5 ∨ j = 6 ∨ j = 7 ∨ j = 8 ∨ j = 9 ∨ j = 10 ∨ j = 11 ∨ j = 12 ∨ j = 13 ∨ j = 14 ∨ j = 15 ∨ j = 16 ∨ j = 17 ∨ j = 18 ∨ j = 19 := by omega
  rcases this with rfl | rfl | rfl | rfl | rfl | rfl | rfl | rfl | rfl | rfl | rfl | rfl | rfl | rfl | rfl | rfl | rfl | rfl | rfl | rfl <;> rfl

/-- What is known of the memory: the ranges, and that the answer's rows may be written. -/
def Tr (w w' : World) (L : List (Nat × Nat × List Value)) : Prop :=
  Rg w' L ∧ Below w.heap.size w w' ∧ w'.there (w.heap.size + 1 + 1 + 1) 0 20 ∧ w'.there (w.heap.size + 1 + 1 + 1 + 1) 0 20 ∧ (∀ x ∈ L, x.1 < w'.heap.size) ∧ w.heap.size + 1 + 1 + 1 + 1 < w'.heap.size

theorem Tr.later {w W w1 : World} {L : List (Nat × Nat × List Value)} (h : Tr w W L) (hb : Below W.heap.size W w1) : Tr w w1 L :=
  ⟨h.1.later hb, chain h.2.1 hb, there_later h.2.2.1 hb, there_later h.2.2.2.1 hb, fun x hx => Nat.lt_of_lt_of_le (h.2.2.2.2.1 x hx) hb.size, Nat.lt_of_lt_of_le h.2.2.2.2.2 hb.size⟩
theorem Tr.add {w W : World} {L : List (Nat × Nat × List Value)} (h : Tr w W L) {b : Nat} {cs : List Value} (hr : W.rangeAt b 0 cs) (h0 : 0 < cs.length) : Tr w W ((b, 0, cs) :: L) := by
  refine ⟨fun x hx => ?_, h.2.1, h.2.2.1, h.2.2.2.1, fun x hx => ?_, h.2.2.2.2.2⟩
  · rcases List.mem_cons.1 hx with rfl | hx
    · exact hr
    · exact h.1 x hx
  · rcases List.mem_cons.1 hx with rfl | hx
    · exact World.block_lt_of_cell? _ _ (hr 0 _ (List.getElem?_eq_getElem h0))
    · exact h.2.2.2.2.1 x hx
theorem Tr.new {w W : World} {L : List (Nat × Nat × List Value)} (h : Tr w W L) (cs : List Value) (t : TypeId) (h0 : 0 < cs.length) : Tr w (W.alloc (.cells cs.toArray t)) ((W.heap.size, 0, cs) :: L) :=
  (h.later ((Below.refl _ _).alloc (Nat.le_refl _) _)).add (range_new W cs t) h0

/-- .. and that what is made has higher places than all that was there at W. -/
def Trk (w W w' : World) (L : List (Nat × Nat × List Value)) : Prop := Tr w w' L ∧ W.heap.size ≤ w'.heap.size
theorem Trk.later {w W wc w1 : World} {L : List (Nat × Nat × List Value)} (h : Trk w W wc L) (hb : Below wc.heap.size wc w1) : Trk w W w1 L := ⟨h.1.later hb, Nat.le_trans h.2 hb.size⟩
theorem Trk.put {w W wc : World} {L : List (Nat × Nat × List Value)} (hL : Tr w W L) (h : Trk w W wc L) {b : Nat} (hb : W.heap.size ≤ b) (cs : List Value) : Trk w W (wc.setCells b 0 cs) L := by
  have hsz : (wc.setCells b 0 cs).heap.size = wc.heap.size := by
    have : ∀ (vs : List Value) (o : Nat) (v : World), (v.setCells b o vs).heap.size = v.heap.size := by
      intro vs
      induction vs with
      | nil => intro o v; rfl
      | cons x r ih => intro o v; rw [World.setCells, ih]; simp [World.setCell]
    exact this cs 0 wc
  have hlt := hL.2.2.2.2.1
  have hr2 := hL.2.2.2.2.2
  have hw := hL.2.1.size
  refine ⟨⟨fun x hx => World.rangeAt_setCells_apart (h.1.1 x hx) b 0 cs (.inl (by have := hlt x hx; omega)), below_setCells (by omega) _ _ _ h.1.2.1, fun j hj => ?_, fun j hj => ?_, fun x hx => by rw [hsz]; exact h.1.2.2.2.2.1 x hx, by rw [hsz]; exact h.1.2.2.2.2.2⟩, by rw [hsz]; exact h.2⟩
  · rw [World.cell?_setCells_out b cs 0 wc _ (fun e _ => absurd e (by show ¬ (w.heap.size + 1 + 1 + 1) = b; omega)), World.frozen?_setCells]; exact h.1.2.2.1 j hj
  · rw [World.cell?_setCells_out b cs 0 wc _ (fun e _ => absurd e (by show ¬ (w.heap.size + 1 + 1 + 1 + 1) = b; omega)), World.frozen?_setCells]; exact h.1.2.2.2.1 j hj

theorem lim3 {w W w1 : World} {L : List (Nat × Nat × List Value)} {b1 o1 b2 o2 b3 o3 : Nat} {c1 c2 c3 : List Value} (t : Trk w W w1 L) (m1 : (b1, o1, c1) ∈ L) (m2 : (b2, o2, c2) ∈ L) (m3 : (b3, o3, c3) ∈ L) : w1.rangeAt b1 o1 c1 ∧ w1.rangeAt b2 o2 c2 ∧ w1.rangeAt b3 o3 c3 ∧ Trk w W w1 L := ⟨t.1.1 _ m1, t.1.1 _ m2, t.1.1 _ m3, t⟩
theorem keep3 {w W wc w1 : World} {L : List (Nat × Nat × List Value)} {b1 o1 b2 o2 b3 o3 : Nat} {c1 c2 c3 : List Value} (m1 : (b1, o1, c1) ∈ L) (m2 : (b2, o2, c2) ∈ L) (m3 : (b3, o3, c3) ∈ L) (hb : Below wc.heap.size wc w1) (h : wc.rangeAt b1 o1 c1 ∧ wc.rangeAt b2 o2 c2 ∧ wc.rangeAt b3 o3 c3 ∧ Trk w W wc L) : w1.rangeAt b1 o1 c1 ∧ w1.rangeAt b2 o2 c2 ∧ w1.rangeAt b3 o3 c3 ∧ Trk w W w1 L := lim3 (Trk.later h.2.2.2 hb) m1 m2 m3
theorem put3 {w W wc : World} {L : List (Nat × Nat × List Value)} {b1 o1 b2 o2 b3 o3 b : Nat} {c1 c2 c3 cs : List Value} (m1 : (b1, o1, c1) ∈ L) (m2 : (b2, o2, c2) ∈ L) (m3 : (b3, o3, c3) ∈ L) (hL : Tr w W L) (hb : W.heap.size ≤ b) (h : wc.rangeAt b1 o1 c1 ∧ wc.rangeAt b2 o2 c2 ∧ wc.rangeAt b3 o3 c3 ∧ Trk w W wc L) : (wc.setCells b 0 cs).rangeAt b1 o1 c1 ∧ (wc.setCells b 0 cs).rangeAt b2 o2 c2 ∧ (wc.setCells b 0 cs).rangeAt b3 o3 c3 ∧ Trk w W (wc.setCells b 0 cs) L := lim3 (Trk.put hL h.2.2.2 hb cs) m1 m2 m3
theorem size3 {w W wc w1 : World} {L : List (Nat × Nat × List Value)} {b1 o1 b2 o2 b3 o3 : Nat} {c1 c2 c3 : List Value} (hb : Below wc.heap.size wc w1) (h : wc.rangeAt b1 o1 c1 ∧ wc.rangeAt b2 o2 c2 ∧ wc.rangeAt b3 o3 c3 ∧ Trk w W wc L) : W.heap.size ≤ w1.heap.size := (Trk.later h.2.2.2 hb).2

theorem lim4 {w W w1 : World} {L : List (Nat × Nat × List Value)} {b1 o1 b2 o2 b3 o3 b4 o4 : Nat} {c1 c2 c3 c4 : List Value} (t : Trk w W w1 L) (m1 : (b1, o1, c1) ∈ L) (m2 : (b2, o2, c2) ∈ L) (m3 : (b3, o3, c3) ∈ L) (m4 : (b4, o4, c4) ∈ L) : w1.rangeAt b1 o1 c1 ∧ w1.rangeAt b2 o2 c2 ∧ w1.rangeAt b3 o3 c3 ∧ w1.rangeAt b4 o4 c4 ∧ Trk w W w1 L := ⟨t.1.1 _ m1, t.1.1 _ m2, t.1.1 _ m3, t.1.1 _ m4, t⟩
theorem keep4 {w W wc w1 : World} {L : List (Nat × Nat × List Value)} {b1 o1 b2 o2 b3 o3 b4 o4 : Nat} {c1 c2 c3 c4 : List Value} (m1 : (b1, o1, c1) ∈ L) (m2 : (b2, o2, c2) ∈ L) (m3 : (b3, o3, c3) ∈ L) (m4 : (b4, o4, c4) ∈ L) (hb : Below wc.heap.size wc w1) (h : wc.rangeAt b1 o1 c1 ∧ wc.rangeAt b2 o2 c2 ∧ wc.rangeAt b3 o3 c3 ∧ wc.rangeAt b4 o4 c4 ∧ Trk w W wc L) : w1.rangeAt b1 o1 c1 ∧ w1.rangeAt b2 o2 c2 ∧ w1.rangeAt b3 o3 c3 ∧ w1.rangeAt b4 o4 c4 ∧ Trk w W w1 L := lim4 (Trk.later h.2.2.2.2 hb) m1 m2 m3 m4
theorem put4 {w W wc : World} {L : List (Nat × Nat × List Value)} {b1 o1 b2 o2 b3 o3 b4 o4 b : Nat} {c1 c2 c3 c4 cs : List Value} (m1 : (b1, o1, c1) ∈ L) (m2 : (b2, o2, c2) ∈ L) (m3 : (b3, o3, c3) ∈ L) (m4 : (b4, o4, c4) ∈ L) (hL : Tr w W L) (hb : W.heap.size ≤ b) (h : wc.rangeAt b1 o1 c1 ∧ wc.rangeAt b2 o2 c2 ∧ wc.rangeAt b3 o3 c3 ∧ wc.rangeAt b4 o4 c4 ∧ Trk w W wc L) : (wc.setCells b 0 cs).rangeAt b1 o1 c1 ∧ (wc.setCells b 0 cs).rangeAt b2 o2 c2 ∧ (wc.setCells b 0 cs).rangeAt b3 o3 c3 ∧ (wc.setCells b 0 cs).rangeAt b4 o4 c4 ∧ Trk w W (wc.setCells b 0 cs) L := lim4 (Trk.put hL h.2.2.2.2 hb cs) m1 m2 m3 m4
theorem size4 {w W wc w1 : World} {L : List (Nat × Nat × List Value)} {b1 o1 b2 o2 b3 o3 b4 o4 : Nat} {c1 c2 c3 c4 : List Value} (hb : Below wc.heap.size wc w1) (h : wc.rangeAt b1 o1 c1 ∧ wc.rangeAt b2 o2 c2 ∧ wc.rangeAt b3 o3 c3 ∧ wc.rangeAt b4 o4 c4 ∧ Trk w W wc L) : W.heap.size ≤ w1.heap.size := (Trk.later h.2.2.2.2 hb).2

end Go.Proofs.Ytdebfelgaiofeaa
