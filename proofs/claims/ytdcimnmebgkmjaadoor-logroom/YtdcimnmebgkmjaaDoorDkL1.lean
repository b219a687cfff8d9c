/- Disks of the call's own; the chapter's example. -/
import Derived.Test.YtdcimnmebgkmjaaDoorDkL0
namespace Go.Proofs.YtdcimnmebgkmjaaDoor
open Go.RowKit Go.Proofs.Fd Go.Proofs.Dk
set_option maxRecDepth 20000

/-- A disk of the call's own. -/
structure Dl (w wr : World) (p : Nat) (F : Nat → Prop) (s : St) : Prop where
  at_ : KAt wr p F s
  new : ∀ g, F g → w.heap.size ≤ g
  below : Below w.heap.size w wr
theorem Dl.stp {w wr w' : World} {p : Nat} {F F' : Nat → Prop} {s t : St} (h : Dl w wr p F s) (h1 : KAt w' p F' t) (h2 : Nx wr F F') (h3 : Bf F wr w') : Dl w w' p F' t :=
  ⟨h1, fun g hg => by
    rcases h2 g hg with c | c
    · exact h.new g c
    · exact Nat.le_trans h.below.size c, h.below.trans (h3.below h.new h.below.size)⟩
theorem Dl.later {w wr w' : World} {p : Nat} {F : Nat → Prop} {s : St} (h : Dl w wr p F s) (hb : Below wr.heap.size wr w') : Dl w w' p F s := ⟨h.at_.later hb, h.new, chain h.below hb⟩
theorem newL (w wr : World) (n : Nat) (h1 : 1 ≤ n) (h2 : n ≤ 1024) (hb : Below w.heap.size w wr) :
    Calls Tryd.prog 7 #[.int .i64 (n : Int)] wr fun e w' => ∃ p F, e = .returned (.tuple #[.pointer (some ⟨p, 0, none⟩), .int .i64 0]) ∧ Dl w w' p F (St.init n) ∧ (∀ g, F g → wr.heap.size ≤ g) ∧ Below wr.heap.size wr w' :=
  (new_any n h1 h2 wr).mono fun _ _ ⟨p, F, he, k1, k2, k3⟩ => ⟨p, F, he, ⟨k1, fun g hg => Nat.le_trans hb.size (k2 g hg), chain hb k3⟩, k2, k3⟩
theorem writeL (w wr : World) (p : Nat) (F : Nat → Prop) (s : St) (k : Int) (t : ByteArray) (hl : s.l.length ≤ 1000000) (h : Dl w wr p F s) :
    Calls Tryd.prog 73 #[.pointer (some ⟨p, 0, none⟩), .int .i64 k, .string t] wr fun e w' => e = .returned (.int .i64 (wrE s k t.data.toList)) ∧ ∃ F', Dl w w' p F' (wrS s k t.data.toList) ∧ Nx wr F F' ∧ Bf F wr w' :=
  (write_any p F s k t wr h.at_ hl).mono fun _ _ ⟨he, F', h1, h2, h3⟩ => ⟨he, F', h.stp h1 h2 h3, h2, h3⟩
theorem syncL (w wr : World) (p : Nat) (F : Nat → Prop) (s : St) (hl : s.l.length ≤ 1000000) (h : Dl w wr p F s) :
    Calls Tryd.prog 64 #[.pointer (some ⟨p, 0, none⟩)] wr fun e w' => e = .returned (.int .i64 (syE s)) ∧ ∃ F', Dl w w' p F' (syS s) ∧ Nx wr F F' ∧ Bf F wr w' :=
  (sync_any p F s wr h.at_ hl).mono fun _ _ ⟨he, F', h1, h2, h3⟩ => ⟨he, F', h.stp h1 h2 h3, h2, h3⟩
theorem crashL (w wr : World) (p : Nat) (F : Nat → Prop) (s : St) (pa : Option Addr) (pn pc : Nat) (ps : List Int) (hpn : ps.length = pn) (hl : s.l.length ≤ 1000000) (hp : IntAt wr pa ps) (hF : ∀ x, pa = some x → 0 < ps.length → ¬ F x.block) (h : Dl w wr p F s) :
    Calls Tryd.prog 16 #[.pointer (some ⟨p, 0, none⟩), .slice pa pn pc] wr fun e w' => e = .returned (.int .i64 0) ∧ ∃ F', Dl w w' p F' (crS s ps) ∧ Nx wr F F' ∧ Bf F wr w' :=
  (crash_any p F s pa pn pc ps hpn wr h.at_ hl hp hF).mono fun _ _ ⟨he, F', h1, h2, h3⟩ => ⟨he, F', h.stp h1 h2 h3, h2, h3⟩
theorem readL (w wr : World) (p : Nat) (F : Nat → Prop) (s : St) (k : Int) (h : Dl w wr p F s) :
    Calls Tryd.prog 69 #[.pointer (some ⟨p, 0, none⟩), .int .i64 k] wr fun e w' => e = .returned (.tuple #[sv (rdV s k), .int .i64 (rch s k)]) ∧ w' = wr := read_any p F s k wr h.at_
/-- A disk that is up, without a fuse. -/
abbrev ups (n : Nat) (f : Nat → Bs) (l : List Wt) : St := ⟨n, f, l, 0, false⟩
theorem rch_up {n : Nat} {f : Nat → Bs} {l : List Wt} {k : Nat} (hk : k < n) : rch (ups n f l) (k : Int) = 0 := by
  unfold rch
  rw [if_neg (by simp), if_neg (by show ¬ ((k : Int) < 0 ∨ (n : Int) ≤ (k : Int)); omega)]
theorem brn_up (n : Nat) (f : Nat → Bs) (l : List Wt) : brnS (ups n f l) = ups n f l := rfl
theorem wr_up {n : Nat} {f : Nat → Bs} {l : List Wt} {k : Nat} (hk : k < n) {t : Bs} (ht : t.length = 64) : wrE (ups n f l) (k : Int) t = 0 ∧ wrS (ups n f l) (k : Int) t = ups n f (l ++ [⟨k, t⟩]) := by
  have h := wrE_ok (s := ups n f l) (rch_up hk) ht (by show (0 : Nat) ≠ 1; decide)
  rw [Int.toNat_natCast] at h
  exact h
theorem sy_up (n : Nat) (f : Nat → Bs) (l : List Wt) : syE (ups n f l) = 0 ∧ syS (ups n f l) = ups n (lay f l) [] := ⟨rfl, rfl⟩
theorem rd_up {n : Nat} {f : Nat → Bs} {l : List Wt} {k : Nat} (hk : k < n) : rdV (ups n f l) (k : Int) = lay f l k := by
  unfold rdV
  rw [if_pos (rch_up hk), Int.toNat_natCast]
  rfl
theorem cr_up (n : Nat) (f : Nat → Bs) (l : List Wt) (ps : List Int) : crS (ups n f l) ps = ups n (tear ps f l 0) [] := rfl
def zs : Nat → Bs := fun _ => List.replicate 64 0
theorem init_up (n : Nat) : St.init n = ups n zs [] := rfl
theorem writeU (w wr : World) (p : Nat) (F : Nat → Prop) (n : Nat) (f : Nat → Bs) (l : List Wt) (k : Nat) (t : Bs) (hk : k < n) (ht : t.length = 64) (hl : l.length ≤ 1000000) (h : Dl w wr p F (ups n f l)) :
    Calls Tryd.prog 73 #[.pointer (some ⟨p, 0, none⟩), .int .i64 (k : Int), sv t] wr fun e w' => e = .returned (.int .i64 0) ∧ ∃ F', Dl w w' p F' (ups n f (l ++ [⟨k, t⟩])) ∧ Nx wr F F' ∧ Bf F wr w' :=
  (writeL w wr p F _ (k : Int) (st t) hl h).mono fun _ _ ⟨he, F', h1, h2, h3⟩ => ⟨by rw [he, st_data, (wr_up hk ht).1], F', by rw [st_data, (wr_up hk ht).2] at h1; exact h1, h2, h3⟩
theorem syncU (w wr : World) (p : Nat) (F : Nat → Prop) (n : Nat) (f : Nat → Bs) (l : List Wt) (hl : l.length ≤ 1000000) (h : Dl w wr p F (ups n f l)) :
    Calls Tryd.prog 64 #[.pointer (some ⟨p, 0, none⟩)] wr fun e w' => e = .returned (.int .i64 0) ∧ ∃ F', Dl w w' p F' (ups n (lay f l) []) ∧ Nx wr F F' ∧ Bf F wr w' := syncL w wr p F _ hl h
theorem crashU (w wr : World) (p : Nat) (F : Nat → Prop) (n : Nat) (f : Nat → Bs) (l : List Wt) (pa : Option Addr) (pn pc : Nat) (ps : List Int) (hpn : ps.length = pn) (hl : l.length ≤ 1000000) (hp : IntAt wr pa ps) (hF : ∀ x, pa = some x → 0 < ps.length → ¬ F x.block) (h : Dl w wr p F (ups n f l)) :
    Calls Tryd.prog 16 #[.pointer (some ⟨p, 0, none⟩), .slice pa pn pc] wr fun e w' => e = .returned (.int .i64 0) ∧ ∃ F', Dl w w' p F' (ups n (tear ps f l 0) []) ∧ Nx wr F F' ∧ Bf F wr w' := crashL w wr p F _ pa pn pc ps hpn hl hp hF h
theorem readU (w wr : World) (p : Nat) (F : Nat → Prop) (n : Nat) (f : Nat → Bs) (l : List Wt) (k : Nat) (hk : k < n) (h : Dl w wr p F (ups n f l)) :
    Calls Tryd.prog 69 #[.pointer (some ⟨p, 0, none⟩), .int .i64 (k : Int)] wr fun e w' => e = .returned (.tuple #[sv (lay f l k), .int .i64 0]) ∧ w' = wr :=
  (readL w wr p F _ (k : Int) h).mono fun _ _ ⟨he, hw⟩ => ⟨by rw [he, rd_up hk, rch_up hk], hw⟩
theorem sizeU (w wr : World) (p : Nat) (F : Nat → Prop) (s : St) (h : Dl w wr p F s) :
    Calls Tryd.prog 28 #[.pointer (some ⟨p, 0, none⟩)] wr fun e w' => e = .returned (.int .i64 (s.n : Int)) ∧ w' = wr := size_any p F s wr h.at_
theorem int_one {w : World} {B : Nat} {y : Int} (h : w.cell? ⟨B, 0, none⟩ = some (.int .i64 y)) : IntAt w (some ⟨B, 0, none⟩) [y] := fun i hi => by
  obtain rfl : i = 0 := by simpa using hi
  exact ⟨B, 0, rfl, h⟩
/-- A crash with one pick, in a row of its own. -/
theorem crash1 (w wr : World) (p : Nat) (F : Nat → Prop) (n : Nat) (f : Nat → Bs) (l : List Wt) (y : Int) (hl : l.length ≤ 1000000) (h : Dl w wr p F (ups n f l)) :
    Calls Tryd.prog 16 #[.pointer (some ⟨p, 0, none⟩), .slice (some ⟨wr.heap.size, 0, none⟩) 1 1] (wr.alloc (.cells #[.int .i64 y] 3)) fun e w' => e = .returned (.int .i64 0) ∧ ∃ F', Dl w w' p F' (ups n (tear [y] f l 0) []) :=
  (crashU w _ p F n f l (some ⟨wr.heap.size, 0, none⟩) 1 1 [y] rfl hl (int_one (by simp [go_sem])) (fun x e _ => by
    injection e with e
    subst e
    exact fun c => Nat.lt_irrefl _ (h.at_.lt c)) (h.later ((Below.refl _ _).alloc (Nat.le_refl _) _))).mono fun _ _ ⟨he, F', h1, _, _⟩ => ⟨he, F', h1⟩
theorem st_app (a b : Bs) : st a ++ st b = st (a ++ b) := by
  apply ByteArray.ext
  rw [ByteArray.data_append]
  simp [st]
theorem st_size (a : Bs) : (st a).size = a.length := by simp [st, ByteArray.size]
theorem st_cut (l : Bs) (i j : Nat) : (st l).extract i j = st ((l.take j).drop i) := by
  apply ByteArray.ext
  apply Array.ext'
  simp [st, ByteArray.data_extract, List.extract_eq_take_drop, List.drop_take]
def aA : Bs := List.replicate 64 97
def bB : Bs := List.replicate 64 98
def cC : Bs := List.replicate 61 97
theorem ex_read : lay (tear [3] (lay zs [⟨0, aA⟩]) [⟨0, bB⟩] 0) [] 0 = [98, 98, 98] ++ cC := by decide
end Go.Proofs.YtdcimnmebgkmjaaDoor
