/- The disk and the document's side by side; an act's box, and a copy of its picks, beside them. -/
import Derived.Test.YtpcgoimkflgcnaaDkRd
import Derived.Test.YtpcgoimkflgcnaaDkRe
namespace Go.Proofs.Ytpcgoimkflgcnaa
open Go.RowKit Go.Proofs.Fd Go.Proofs.Dk
set_option maxRecDepth 20000

/-- The disk and the document's. -/
structure Bo (w wr : World) (p d : Nat) (F G : Nat → Prop) (s t : St) : Prop where
  dl : Dl w wr p F s
  da : DAt wr d G t
  ap : ∀ g, F g → ¬ G g
  nG : ∀ g, G g → w.heap.size ≤ g
theorem Bo.one {w wr w' : World} {p d : Nat} {F F' G : Nat → Prop} {s s' t : St} (h : Bo w wr p d F G s t) (h1 : Dl w w' p F' s') (h2 : Nx wr F F') (h3 : Bf F wr w') : Bo w w' p d F' G s' t :=
  ⟨h1, h.da.other h3 (fun g hg c => h.ap g c hg), fun g hg c => by
    rcases h2 g hg with e | e
    · exact h.ap g e c
    · have := h.da.lt c
      omega, h.nG⟩
theorem Bo.two {w wr w' : World} {p d : Nat} {F G G' : Nat → Prop} {s t t' : St} (h : Bo w wr p d F G s t) (h1 : DAt w' d G' t') (h2 : Nx wr G G') (h3 : Bf G wr w') : Bo w w' p d F G' s t' :=
  ⟨⟨h.dl.at_.other h3 h.ap, h.dl.new, h.dl.below.trans (h3.below h.nG h.dl.below.size)⟩, h1, fun g hg c => by
    rcases h2 g c with e | e
    · exact h.ap g hg e
    · have := h.dl.at_.lt hg
      omega, fun g hg => by
    rcases h2 g hg with e | e
    · exact h.nG g e
    · exact Nat.le_trans h.dl.below.size e⟩
theorem Bo.later {w wr w' : World} {p d : Nat} {F G : Nat → Prop} {s t : St} (h : Bo w wr p d F G s t) (hb : Below wr.heap.size wr w') : Bo w w' p d F G s t := ⟨h.dl.later hb, h.da.later hb, h.ap, h.nG⟩
/-- A block beside them, of which two cells are known. -/
structure Bx (w wr : World) (p d : Nat) (F G : Nat → Prop) (s t : St) (B : Nat) (x y : Value) : Prop where
  bo : Bo w wr p d F G s t
  m1 : ¬ F B
  m2 : ¬ G B
  c1 : wr.cell? ⟨B, 1, none⟩ = some x
  c4 : wr.cell? ⟨B, 4, none⟩ = some y
theorem Bx.lt {w wr : World} {p d : Nat} {F G : Nat → Prop} {s t : St} {B : Nat} {x y : Value} (h : Bx w wr p d F G s t B x y) : B < wr.heap.size := World.block_lt_of_cell? _ _ h.c1
theorem nx_not {w : World} {F F' : Nat → Prop} {B : Nat} (h : Nx w F F') (h1 : ¬ F B) (hl : B < w.heap.size) : ¬ F' B := fun c => by
  rcases h B c with e | e
  · exact h1 e
  · omega
theorem Bx.one {w wr w' : World} {p d : Nat} {F F' G : Nat → Prop} {s s' t : St} {B : Nat} {x y : Value} (h : Bx w wr p d F G s t B x y) (h1 : Dl w w' p F' s') (h2 : Nx wr F F') (h3 : Bf F wr w') : Bx w w' p d F' G s' t B x y :=
  ⟨h.bo.one h1 h2 h3, nx_not h2 h.m1 h.lt, h.m2, h3.cell h.c1 h.m1, h3.cell h.c4 h.m1⟩
theorem Bx.two {w wr w' : World} {p d : Nat} {F G G' : Nat → Prop} {s t t' : St} {B : Nat} {x y : Value} (h : Bx w wr p d F G s t B x y) (h1 : DAt w' d G' t') (h2 : Nx wr G G') (h3 : Bf G wr w') : Bx w w' p d F G' s t' B x y :=
  ⟨h.bo.two h1 h2 h3, h.m1, nx_not h2 h.m2 h.lt, h3.cell h.c1 h.m2, h3.cell h.c4 h.m2⟩
theorem Bx.later {w wr w' : World} {p d : Nat} {F G : Nat → Prop} {s t : St} {B : Nat} {x y : Value} (h : Bx w wr p d F G s t B x y) (hb : Below wr.heap.size wr w') : Bx w w' p d F G s t B x y := ⟨h.bo.later hb, h.m1, h.m2, cell_later hb h.c1, cell_later hb h.c4⟩
theorem c1_of {w wr : World} {p d : Nat} {F G : Nat → Prop} {s t : St} {B : Nat} {x y : Value} (h : Hid (Bx w wr p d F G s t B x y)) : wr.cell? ⟨B, 1, none⟩ = some x := h.out.c1
/-- .. and numbers of the call's own. -/
structure By (w wr : World) (p d : Nat) (F G : Nat → Prop) (s t : St) (B : Nat) (x y : Value) (g : Nat) (L : List Int) : Prop where
  bx : Bx w wr p d F G s t B x y
  o1 : ¬ F g
  o2 : ¬ G g
  lt : g < wr.heap.size
  row : Row wr g L
theorem Row.kept {w w' : World} {F : Nat → Prop} {g : Nat} {L : List Int} (h : Row w g L) (hb : Bf F w w') (hF : ¬ F g) : Row w' g L := fun j hj => by
  obtain ⟨h0, h1⟩ := h j hj
  have hl := World.block_lt_of_cell? _ _ h0
  exact ⟨hb.cell h0 hF, (World.frozen?_of_block (a := ⟨g, j, none⟩) (hb.block g hl hF)).trans h1⟩
theorem By.one {w wr w' : World} {p d : Nat} {F F' G : Nat → Prop} {s s' t : St} {B : Nat} {x y : Value} {g : Nat} {L : List Int} (h : By w wr p d F G s t B x y g L) (h1 : Dl w w' p F' s') (h2 : Nx wr F F') (h3 : Bf F wr w') : By w w' p d F' G s' t B x y g L :=
  ⟨h.bx.one h1 h2 h3, nx_not h2 h.o1 h.lt, h.o2, Nat.lt_of_lt_of_le h.lt h3.size, h.row.kept h3 h.o1⟩
theorem By.two {w wr w' : World} {p d : Nat} {F G G' : Nat → Prop} {s t t' : St} {B : Nat} {x y : Value} {g : Nat} {L : List Int} (h : By w wr p d F G s t B x y g L) (h1 : DAt w' d G' t') (h2 : Nx wr G G') (h3 : Bf G wr w') : By w w' p d F G' s t' B x y g L :=
  ⟨h.bx.two h1 h2 h3, h.o1, nx_not h2 h.o2 h.lt, Nat.lt_of_lt_of_le h.lt h3.size, h.row.kept h3 h.o2⟩
theorem By.later {w wr w' : World} {p d : Nat} {F G : Nat → Prop} {s t : St} {B : Nat} {x y : Value} {g : Nat} {L : List Int} (h : By w wr p d F G s t B x y g L) (hb : Below wr.heap.size wr w') : By w w' p d F G s t B x y g L :=
  ⟨h.bx.later hb, h.o1, h.o2, Nat.lt_of_lt_of_le h.lt hb.size, h.row.later hb⟩
theorem c4_of {w wr : World} {p d : Nat} {F G : Nat → Prop} {s t : St} {B : Nat} {x y : Value} {g : Nat} {L : List Int} (h : Hid (By w wr p d F G s t B x y g L)) : wr.cell? ⟨B, 4, none⟩ = some y := h.out.bx.c4
theorem wr_len (s : St) (k : Int) (t : Bs) : (wrS s k t).l.length ≤ s.l.length + 1 := by
  unfold wrS
  split
  · omega
  · split
    · omega
    · split
      · show s.l.length ≤ _
        omega
      · show (s.l ++ [_]).length ≤ _
        rw [List.length_append]
        simp
theorem sy_len (s : St) : (syS s).l.length ≤ s.l.length := by
  unfold syS
  split
  · omega
  · split
    · exact Nat.le_refl _
    · exact Nat.zero_le _
theorem fu_len (s : St) (n : Int) : (fuS s n).l.length = s.l.length := by
  unfold fuS
  split
  · rfl
  · split
    · rfl
    · rfl
/-- An act; a list of them. -/
structure Ac where
  k : Int
  n : Int
  t : ByteArray
  r : Bool
  pa : Option Addr
  pn : Nat
  pc : Nat
  ps : List Int
structure Ac.L (w : World) (y : Ac) : Prop where
  at_ : IntAt w y.pa y.ps
  len : y.ps.length = y.pn
  nil : y.pa = none → y.pn = 0 ∧ y.pc = 0
  sz : y.pn * 8 ≤ 140737488351232
def ActAt (w : World) (a : Option Addr) (L : List Ac) : Prop := ∀ i (hi : i < L.length), ∃ b o, a = some ⟨b, o, none⟩ ∧ w.cell? ⟨b, o + i * 5, none⟩ = some (.int .i64 L[i].k) ∧ w.cell? ⟨b, o + i * 5 + 1, none⟩ = some (.int .i64 L[i].n) ∧ w.cell? ⟨b, o + i * 5 + 2, none⟩ = some (.string L[i].t) ∧ w.cell? ⟨b, o + i * 5 + 3, none⟩ = some (.bool L[i].r) ∧ w.cell? ⟨b, o + i * 5 + 4, none⟩ = some (.slice L[i].pa L[i].pn L[i].pc)
theorem ActAt.later {W w1 : World} {a : Option Addr} {L : List Ac} (h : ActAt W a L) (hb : Below W.heap.size W w1) : ActAt w1 a L := fun i hi => by
  obtain ⟨b, o, e, h0, h1, h2, h3, h4⟩ := h i hi
  exact ⟨b, o, e, cell_later hb h0, cell_later hb h1, cell_later hb h2, cell_later hb h3, cell_later hb h4⟩
theorem IntAt.old {w : World} {a : Option Addr} {cs : List Int} (h : IntAt w a cs) : ∀ x, a = some x → 0 < cs.length → x.block < w.heap.size := fun x hx h0 => by
  obtain ⟨b, o, e, hc⟩ := h 0 h0
  rw [e] at hx
  injection hx with hx
  subst hx
  exact World.block_lt_of_cell? _ _ hc
end Go.Proofs.Ytpcgoimkflgcnaa
