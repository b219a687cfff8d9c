/- Rows of numbers; wheels as the statements use them; the chapter's example. -/
import Derived.Test.YthnkkkiobbnpmaaWhV
import Derived.Test.YthnkkkiobbnpmaaWhZ
namespace Go.Proofs.Ythnkkkiobbnpmaa
open Go.RowKit Go.Proofs.Fd Go.Proofs.Wh
set_option maxRecDepth 20000

/-- Numbers that lie in a row. -/
def IntAt (w : World) (a : Option Addr) (cs : List Int) : Prop := ∀ i (hi : i < cs.length), ∃ b o, a = some ⟨b, o, none⟩ ∧ w.cell? ⟨b, o + i, none⟩ = some (.int .i64 cs[i])
theorem IntAt.later {W w1 : World} {a : Option Addr} {cs : List Int} (h : IntAt W a cs) (hb : Below W.heap.size W w1) : IntAt w1 a cs := fun i hi => by
  obtain ⟨b, o, e, hc⟩ := h i hi
  exact ⟨b, o, e, cell_later hb hc⟩
theorem owns_int {w : World} {a : Option Addr} {n c : Nat} {l : List Int} (h : OwnsI w (.slice a n c) l) : IntAt w a l ∧ l.length = n := by
  rcases h.2 with ⟨h1, h2⟩ | ⟨g, cap, cur, h1, -⟩
  · injection h1 with e1 e2 e3
    obtain rfl := List.length_eq_zero_iff.1 h2
    exact ⟨fun i hi => absurd hi (Nat.not_lt_zero _), e2.symm⟩
  · have h1' := h1
    injection h1' with e1 e2 e3
    subst e1
    subst e2
    refine ⟨fun i hi => ⟨g, 0, rfl, ?_⟩, rfl⟩
    rw [h1] at h
    rw [Nat.zero_add, h.cellAt i (by omega)]
    simp [ic, hi]
theorem lit_int (w : World) (cs : List Int) (t : TypeId) : IntAt (w.alloc (.cells (ic cs).toArray t)) (some ⟨w.heap.size, 0, none⟩) cs := fun i hi => ⟨w.heap.size, 0, rfl, by
  rw [Nat.zero_add, World.cell?_alloc_new]
  simp [ic, hi]⟩
theorem same_ints (a b : Option Addr) (L : List Int) (n c1 c2 : Nat) (hn : L.length = n) (hn2 : n ≤ 1000000) (w : World) (h1 : Hid (IntAt w a L)) (h2 : Hid (IntAt w b L)) :
    Calls Try.prog 18 #[.slice a n c1, .slice b n c2] w fun e w' => e = .returned (.bool true) ∧ Below w.heap.size w w' := by
  go_enter Try.func18, Try.ntmps18
  go_wp2
  go_loopw [5] (fun i wr => ∃ k : Nat, k ≤ n ∧ i = .int .i64 (k : Int) ∧ Hid (Below w.heap.size w wr)) (fun i _ => n - (intOf i).toNat)
  case atStart => exact ⟨0, by omega, rfl, Below.refl _ _⟩
  case round =>
    obtain ⟨k, hk, rfl, I⟩ := hrel
    by_cases hlt : k < n
    · have g1 : (k : Int) < (n : Int) := by omega
      obtain ⟨b1, o1, rfl, e1⟩ := (h1.out.later I.out) k (by omega)
      obtain ⟨b2, o2, rfl, e2⟩ := (h2.out.later I.out) k (by omega)
      obtain ⟨x, hx⟩ : ∃ x, L[k] = x := ⟨_, rfl⟩
      rw [hx] at e1 e2
      clear hx
      go_wp2
      go_quiet (fail)
      go_wp2
      go_roundw
      case rel => exact ⟨k + 1, by omega, by go_num, below_drewN I.out _⟩
      case measure => simp [intOf]; omega
    · obtain rfl : k = n := by omega
      go_wp2
      go_ret
      exact ⟨rfl, I.out⟩
/-- A wheel of the call's own. -/
structure Wl (w wr : World) (p : Nat) (F : Nat → Prop) (s : St) : Prop where
  at_ : WAt wr p F s
  new : ∀ g, F g → w.heap.size ≤ g
  below : Below w.heap.size w wr
theorem Wl.stp {w wr w' : World} {p : Nat} {F F' : Nat → Prop} {s t : St} (h : Wl w wr p F s) (h1 : WAt w' p F' t) (h2 : Nx wr F F') (h3 : Bf F wr w') : Wl w w' p F' t :=
  ⟨h1, fun g hg => by
    rcases h2 g hg with c | c
    · exact h.new g c
    · exact Nat.le_trans h.below.size c, h.below.trans (h3.below h.new h.below.size)⟩
theorem Wl.later {w wr w' : World} {p : Nat} {F : Nat → Prop} {s : St} (h : Wl w wr p F s) (hb : Below wr.heap.size wr w') : Wl w w' p F s := ⟨h.at_.later hb, h.new, chain h.below hb⟩
theorem putL (w wr : World) (p : Nat) (F : Nat → Prop) (s : St) (at_ id : Int) (hw : -9223372036854775808 ≤ id ∧ id < 9223372036854775808) (hm : s.many < 1099511627776) (h : Wl w wr p F s) :
    Calls Try.prog 12 #[.pointer (some ⟨p, 0, none⟩), .int .i64 at_, .int .i64 id] wr fun e w' => e = .returned (.tuple #[.int .i64 (putV s at_), .int .i64 (putE s at_)]) ∧ ∃ F', Wl w w' p F' (putS s at_ id) ∧ Nx wr F F' ∧ Bf F wr w' :=
  (put_any p F s at_ id hw hm wr h.at_).mono fun _ _ ⟨he, F', h1, h2, h3⟩ => ⟨he, F', h.stp h1 h2 h3, h2, h3⟩
theorem canL (w wr : World) (p : Nat) (F : Nat → Prop) (s : St) (n : Int) (hw : -9223372036854775808 ≤ n ∧ n < 9223372036854775808) (hm : s.many < 1099511627776) (h : Wl w wr p F s) :
    Calls Try.prog 14 #[.pointer (some ⟨p, 0, none⟩), .int .i64 n] wr fun e w' => e = .returned (.int .i64 (canE s n)) ∧ ∃ F', Wl w w' p F' (canS s n) ∧ Nx wr F F' ∧ Bf F wr w' :=
  (cancel_any p F s n hw hm wr h.at_).mono fun _ _ ⟨he, F', h1, h2, h3⟩ => ⟨he, F', h.stp h1 h2 h3, h2, h3⟩
theorem advL (w wr : World) (p : Nat) (F : Nat → Prop) (s : St) (tt : Int) (hm : s.many < 1099511627776) (h : Wl w wr p F s) :
    Calls Try.prog 16 #[.pointer (some ⟨p, 0, none⟩), .int .i64 tt] wr fun e w' => ∃ F' va vn vc, e = .returned (.tuple #[.slice va vn vc, .int .i64 (advE s tt)]) ∧ Wl w w' p F' (advS s tt) ∧ Nx wr F F' ∧ Bf F wr w' ∧ OwnsI w' (.slice va vn vc) (advV s tt) ∧ ∀ g, (Value.slice va vn vc).ownBlock = some g → ¬ F' g ∧ wr.heap.size ≤ g :=
  (adv_any p F s tt hm wr h.at_).mono fun _ _ ⟨F', va, vn, vc, he, h1, h2, h3, h4, h5⟩ => ⟨F', va, vn, vc, he, h.stp h1 h2 h3, h2, h3, h4, h5⟩
theorem newL (w wr : World) (hb : Below w.heap.size w wr) :
    Calls Try.prog 8 #[] wr fun e w' => ∃ p F, e = .returned (.pointer (some ⟨p, 0, none⟩)) ∧ Wl w w' p F St.init ∧ (∀ g, F g → wr.heap.size ≤ g) ∧ Below wr.heap.size wr w' :=
  (new_any wr).mono fun _ _ ⟨p, F, he, h1, h2, h3⟩ => ⟨p, F, he, ⟨h1, fun g hg => Nat.le_trans hb.size (h2 g hg), chain hb h3⟩, h2, h3⟩
theorem OwnsI.kept {w w' : World} {v : Value} {l : List Int} {F : Nat → Prop} (h : OwnsI w v l) (hb : Bf F w w') (hF : ∀ g, v.ownBlock = some g → ¬ F g) : OwnsI w' v l := ownsRow_same h (fun g e => hb.block g (h.lt g e).2 (hF g e))
theorem OwnsI.later {w w' : World} {v : Value} {l : List Int} (h : OwnsI w v l) (hb : Below w.heap.size w w') : OwnsI w' v l := ownsRow_same h (fun g e => hb.block g (h.lt g e).2)
def sA : St := putS (putS (putS St.init 5 1) 3 2) 5 3
def sB : St := advS sA 4
theorem ex_put : putV St.init 5 = 1 ∧ putE St.init 5 = 0 ∧ putV (putS St.init 5 1) 3 = 2 ∧ putE (putS St.init 5 1) 3 = 0 ∧ putV (putS (putS St.init 5 1) 3 2) 5 = 3 ∧ putE (putS (putS St.init 5 1) 3 2) 5 = 0 := ⟨rfl, rfl, rfl, rfl, rfl, rfl⟩
theorem ex_adv : advV sA 4 = [2] ∧ advE sA 4 = 0 ∧ advV sB 5 = [1, 3] ∧ advE sB 5 = 0 ∧ (advS sB 5).l.length = 0 := ⟨rfl, rfl, rfl, rfl, rfl⟩
end Go.Proofs.Ythnkkkiobbnpmaa
