/- Disks of the call's own; the chapter's example. -/
import Derived.Test.YtpcgoimkflgcnaaDkL0
namespace Go.Proofs.Ytpcgoimkflgcnaa
open Go.RowKit Go.Proofs.Fd Go.Proofs.Dk
set_option maxRecDepth 20000

/-- A disk of the call's own. -/
structure Dl (w wr : World) (p : Nat) (F : Nat → Prop) (s : St) : Prop where
  at_ : KAt wr p F s
  new : ∀ g, F g → w.heap.size ≤ g
  below : Below w.heap.size w wr
theorem Dl.stp {w wr w' : World} {p : Nat} {F F' : Nat → Prop} {s t : St} (h : Dl w wr p F s) (h1 : KAt w' p F' t) (h2 : Nx wr F F') (h3 : Bf F wr w') : Dl w w' p F' t :=
  ⟨h1, fun g hg => by
    rcases h2 g hg with c | c
    · exact h.new g c
    · exact Nat.le_trans h.below.size c, h.below.trans (h3.below h.new h.below.size)⟩
theorem Dl.later {w wr w' : World} {p : Nat} {F : Nat → Prop} {s : St} (h : Dl w wr p F s) (hb : Below wr.heap.size wr w') : Dl w w' p F s := ⟨h.at_.later hb, h.new, chain h.below hb⟩
theorem newL (w wr : World) (n : Nat) (h1 : 1 ≤ n) (h2 : n ≤ 1024) (hb : Below w.heap.size w wr) :
    Calls Try.prog 8 #[.int .i64 (n : Int)] wr fun e w' => ∃ p F, e = .returned (.tuple #[.pointer (some ⟨p, 0, none⟩), .int .i64 0]) ∧ Dl w w' p F (St.init n) ∧ (∀ g, F g → wr.heap.size ≤ g) ∧ Below wr.heap.size wr w' :=
  (new_any n h1 h2 wr).mono fun _ _ ⟨p, F, he, k1, k2, k3⟩ => ⟨p, F, he, ⟨k1, fun g hg => Nat.le_trans hb.size (k2 g hg), chain hb k3⟩, k2, k3⟩
theorem writeL (w wr : World) (p : Nat) (F : Nat → Prop) (s : St) (k : Int) (t : ByteArray) (hl : s.l.length ≤ 1000000) (h : Dl w wr p F s) :
    Calls Try.prog 13 #[.pointer (some ⟨p, 0, none⟩), .int .i64 k, .string t] wr fun e w' => e = .returned (.int .i64 (wrE s k t.data.toList)) ∧ ∃ F', Dl w w' p F' (wrS s k t.data.toList) ∧ Nx wr F F' ∧ Bf F wr w' :=
  (write_any p F s k t wr h.at_ hl).mono fun _ _ ⟨he, F', h1, h2, h3⟩ => ⟨he, F', h.stp h1 h2 h3, h2, h3⟩
theorem syncL (w wr : World) (p : Nat) (F : Nat → Prop) (s : St) (hl : s.l.length ≤ 1000000) (h : Dl w wr p F s) :
    Calls Try.prog 17 #[.pointer (some ⟨p, 0, none⟩)] wr fun e w' => e = .returned (.int .i64 (syE s)) ∧ ∃ F', Dl w w' p F' (syS s) ∧ Nx wr F F' ∧ Bf F wr w' :=
  (sync_any p F s wr h.at_ hl).mono fun _ _ ⟨he, F', h1, h2, h3⟩ => ⟨he, F', h.stp h1 h2 h3, h2, h3⟩
theorem fuseL (w wr : World) (p : Nat) (F : Nat → Prop) (s : St) (n : Int) (h : Dl w wr p F s) :
    Calls Try.prog 19 #[.pointer (some ⟨p, 0, none⟩), .int .i64 n] wr fun e w' => e = .returned (.int .i64 (fuE s n)) ∧ ∃ F', Dl w w' p F' (fuS s n) ∧ Nx wr F F' ∧ Bf F wr w' :=
  (fuse_any p F s n wr h.at_).mono fun _ _ ⟨he, F', h1, h2, h3⟩ => ⟨he, F', h.stp h1 h2 h3, h2, h3⟩
theorem crashL (w wr : World) (p : Nat) (F : Nat → Prop) (s : St) (pa : Option Addr) (pn pc : Nat) (ps : List Int) (hpn : ps.length = pn) (hl : s.l.length ≤ 1000000) (hp : IntAt wr pa ps) (hF : ∀ x, pa = some x → 0 < ps.length → ¬ F x.block) (h : Dl w wr p F s) :
    Calls Try.prog 22 #[.pointer (some ⟨p, 0, none⟩), .slice pa pn pc] wr fun e w' => e = .returned (.int .i64 0) ∧ ∃ F', Dl w w' p F' (crS s ps) ∧ Nx wr F F' ∧ Bf F wr w' :=
  (crash_any p F s pa pn pc ps hpn wr h.at_ hl hp hF).mono fun _ _ ⟨he, F', h1, h2, h3⟩ => ⟨he, F', h.stp h1 h2 h3, h2, h3⟩
theorem readL (w wr : World) (p : Nat) (F : Nat → Prop) (s : St) (k : Int) (h : Dl w wr p F s) :
    Calls Try.prog 15 #[.pointer (some ⟨p, 0, none⟩), .int .i64 k] wr fun e w' => e = .returned (.tuple #[sv (rdV s k), .int .i64 (rch s k)]) ∧ w' = wr := read_any p F s k wr h.at_
/-- A disk that is up, without a fuse. -/
abbrev ups (n : Nat) (f : Nat → Bs) (l : List Wt) : St := ⟨n, f, l, 0, false⟩
theorem rch_up {n : Nat} {f : Nat → Bs} {l : List Wt} {k : Nat} (hk : k < n) : rch (ups n f l) (k : Int) = 0 := by
  unfold rch
  rw [if_neg (by simp), if_neg (by show ¬ ((k : Int) < 0 ∨ (n : Int) ≤ (k : Int)); omega)]
theorem brn_up (n : Nat) (f : Nat → Bs) (l : List Wt) : brnS (ups n f l) = ups n f l := rfl
theorem wr_up {n : Nat} {f : Nat → Bs} {l : List Wt} {k : Nat} (hk : k < n) {t : Bs} (ht : t.length = 64) : wrE (ups n f l) (k : Int) t = 0 ∧ wrS (ups n f l) (k : Int) t = ups n f (l ++ [⟨k, t⟩]) := by
  have h := wrE_ok (s := ups n f l) (rch_up hk) ht (by show (0 : Nat) ≠ 1; decide)
  rw [Int.toNat_natCast] at h
  exact h
theorem sy_up (n : Nat) (f : Nat → Bs) (l : List Wt) : syE (ups n f l) = 0 ∧ syS (ups n f l) = ups n (lay f l) [] := ⟨rfl, rfl⟩
theorem rd_up {n : Nat} {f : Nat → Bs} {l : List Wt} {k : Nat} (hk : k < n) : rdV (ups n f l) (k : Int) = lay f l k := by
  unfold rdV
  rw [if_pos (rch_up hk), Int.toNat_natCast]
  rfl
theorem cr_up (n : Nat) (f : Nat → Bs) (l : List Wt) (ps : List Int) : crS (ups n f l) ps = ups n (tear ps f l 0) [] := rfl
def zs : Nat → Bs := fun _ => List.replicate 64 0
theorem init_up (n : Nat) : St.init n = ups n zs [] := rfl
theorem writeU (w wr : World) (p : Nat) (F : Nat → Prop) (n : Nat) (f : Nat → Bs) (l : List Wt) (k : Nat) (t : Bs) (hk : k < n) (ht : t.length = 64) (hl : l.length ≤ 1000000) (h : Dl w wr p F (ups n f l)) :
    Calls Try.prog 13 #[.pointer (some ⟨p, 0, none⟩), .int .i64 (k : Int), sv t] wr fun e w' => e = .returned (.int .i64 0) ∧ ∃ F', Dl w w' p F' (ups n f (l ++ [⟨k, t⟩])) ∧ Nx wr F F' ∧ Bf F wr w' :=
  (writeL w wr p F _ (k : Int) (st t) hl h).mono fun _ _ ⟨he, F', h1, h2, h3⟩ => ⟨by rw [he, st_data, (wr_up hk ht).1], F', by rw [st_data, (wr_up hk ht).2] at h1; exact h1, h2, h3⟩
theorem syncU (w wr : World) (p : Nat) (F : Nat → Prop) (n : Nat) (f : Nat → Bs) (l : List Wt) (hl : l.length ≤ 1000000) (h : Dl w wr p F (ups n f l)) :
    Calls Try.prog 17 #[.pointer (some ⟨p, 0, none⟩)] wr fun e w' => e = .returned (.int .i64 0) ∧ ∃ F', Dl w w' p F' (ups n (lay f l) []) ∧ Nx wr F F' ∧ Bf F wr w' := syncL w wr p F _ hl h
theorem crashU (w wr : World) (p : Nat) (F : Nat → Prop) (n : Nat) (f : Nat → Bs) (l : List Wt) (pa : Option Addr) (pn pc : Nat) (ps : List Int) (hpn : ps.length = pn) (hl : l.length ≤ 1000000) (hp : IntAt wr pa ps) (hF : ∀ x, pa = some x → 0 < ps.length → ¬ F x.block) (h : Dl w wr p F (ups n f l)) :
    Calls Try.prog 22 #[.pointer (some ⟨p, 0, none⟩), .slice pa pn pc] wr fun e w' => e = .returned (.int .i64 0) ∧ ∃ F', Dl w w' p F' (ups n (tear ps f l 0) []) ∧ Nx wr F F' ∧ Bf F wr w' := crashL w wr p F _ pa pn pc ps hpn hl hp hF h
theorem readU (w wr : World) (p : Nat) (F : Nat → Prop) (n : Nat) (f : Nat → Bs) (l : List Wt) (k : Nat) (hk : k < n) (h : Dl w wr p F (ups n f l)) :
    Calls Try.prog 15 #[.pointer (some ⟨p, 0, none⟩), .int .i64 (k : Int)] wr fun e w' => e = .returned (.tuple #[sv (lay f l k), .int .i64 0]) ∧ w' = wr :=
  (readL w wr p F _ (k : Int) h).mono fun _ _ ⟨he, hw⟩ => ⟨by rw [he, rd_up hk, rch_up hk], hw⟩
theorem waitsU (w wr : World) (p : Nat) (F : Nat → Prop) (s : St) (h : Dl w wr p F s) :
    Calls Try.prog 26 #[.pointer (some ⟨p, 0, none⟩)] wr fun e w' => e = .returned (.int .i64 (s.l.length : Int)) ∧ w' = wr := waits_any p F s wr h.at_
theorem sizeU (w wr : World) (p : Nat) (F : Nat → Prop) (s : St) (h : Dl w wr p F s) :
    Calls Try.prog 25 #[.pointer (some ⟨p, 0, none⟩)] wr fun e w' => e = .returned (.int .i64 (s.n : Int)) ∧ w' = wr := size_any p F s wr h.at_
theorem int_one {w : World} {B : Nat} {y : Int} (h : w.cell? ⟨B, 0, none⟩ = some (.int .i64 y)) : IntAt w (some ⟨B, 0, none⟩) [y] := fun i hi => by
  obtain rfl : i = 0 := by simpa using hi
  exact ⟨B, 0, rfl, h⟩
/-- A crash with one pick, in a row of its own. -/
theorem crash1 (w wr : World) (p : Nat) (F : Nat → Prop) (n : Nat) (f : Nat → Bs) (l : List Wt) (y : Int) (hl : l.length ≤ 1000000) (h : Dl w wr p F (ups n f l)) :
    Calls Try.prog 22 #[.pointer (some ⟨p, 0, none⟩), .slice (some ⟨wr.heap.size, 0, none⟩) 1 1] (wr.alloc (.cells #[.int .i64 y] 3)) fun e w' => e = .returned (.int .i64 0) ∧ ∃ F', Dl w w' p F' (ups n (tear [y] f l 0) []) :=
  (crashU w _ p F n f l (some ⟨wr.heap.size, 0, none⟩) 1 1 [y] rfl hl (int_one (by simp [go_sem])) (fun x e _ => by
    injection e with e
    subst e
    exact fun c => Nat.lt_irrefl _ (h.at_.lt c)) (h.later ((Below.refl _ _).alloc (Nat.le_refl _) _))).mono fun _ _ ⟨he, F', h1, _, _⟩ => ⟨he, F', h1⟩
theorem st_app (a b : Bs) : st a ++ st b = st (a ++ b) := by
  apply ByteArray.ext
  rw [ByteArray.data_append]
  simp [st]
theorem st_size (a : Bs) : (st a).size = a.length := by simp [st, ByteArray.size]
theorem st_cut (l : Bs) (i j : Nat) : (st l).extract i j = st ((l.take j).drop i) := by
  apply ByteArray.ext
  apply Array.ext'
  simp [st, ByteArray.data_extract, List.extract_eq_take_drop, List.drop_take]
def aA : Bs := List.replicate 64 97
def bB : Bs := List.replicate 64 98
def cC : Bs := List.replicate 61 97
theorem ex_read : lay (tear [3] (lay zs [⟨0, aA⟩]) [⟨0, bB⟩] 0) [] 0 = [98, 98, 98] ++ cC := by decide
set_option maxHeartbeats 1000000 in
theorem works_any (w : World) : Calls Try.prog 10 #[] w fun e w' => e = .returned (.bool true) ∧ Below w.heap.size w w' := by
  have NW : Hid _ := newL w w 2 (by decide) (by decide) (Below.refl _ _)
  have RA : Hid (∀ w, Calls Try.prog 27 #[.string ⟨#[97]⟩, .int .i64 64] w fun e w' => e = .returned (sv aA) ∧ Below w.heap.size w w') := rep_any 97 64 (by decide)
  have RB : Hid (∀ w, Calls Try.prog 27 #[.string ⟨#[98]⟩, .int .i64 64] w fun e w' => e = .returned (sv bB) ∧ Below w.heap.size w w') := rep_any 98 64 (by decide)
  have RC : Hid (∀ w, Calls Try.prog 27 #[.string ⟨#[97]⟩, .int .i64 61] w fun e w' => e = .returned (sv cC) ∧ Below w.heap.size w w') := rep_any 97 61 (by decide)
  go_enter Try.func10, Try.ntmps10
  go_wp2_with fail
  refine Calls.mono NW.out ?_
  rintro e w1 ⟨p, F, rfl, I1, -, -⟩
  have J1 : Hid _ := I1
  clear NW I1
  go_wp2_with fail
  refine Calls.mono (RA.out _) ?_
  rintro e w2 ⟨rfl, hb⟩
  have J2 : Hid _ := J1.out.later hb
  clear J1 hb RA
  go_wp2_with fail
  refine Calls.mono (writeU w w2 p F 2 zs [] 0 aA (by decide) (by decide) (by decide) J2.out) ?_
  rintro e w3 ⟨rfl, F3, I3, -, -⟩
  have J3 : Hid _ := I3
  clear J2 I3
  go_wp2_with fail
  refine Calls.mono (syncU w w3 p F3 2 zs _ (by decide) J3.out) ?_
  rintro e w4 ⟨rfl, F4, I4, -, -⟩
  have J4 : Hid _ := I4
  clear J3 I4
  go_wp2_with fail
  refine Calls.mono (RB.out _) ?_
  rintro e w5 ⟨rfl, hb⟩
  have J5 : Hid _ := J4.out.later hb
  clear J4 hb RB
  go_wp2_with fail
  refine Calls.mono (writeU w w5 p F4 2 _ [] 0 bB (by decide) (by decide) (by decide) J5.out) ?_
  rintro e w6 ⟨rfl, F6, I6, -, -⟩
  have J6 : Hid _ := I6
  clear J5 I6
  go_wp2_with fail
  refine Calls.mono (crash1 w w6 p F6 2 _ _ 3 (by decide) J6.out) ?_
  rintro e w7 ⟨rfl, F7, I7⟩
  have J7 : Hid _ := I7
  clear J6 I7
  go_wp2_with fail
  refine Calls.mono (readU w w7 p F7 2 _ [] 0 (by decide) J7.out) ?_
  rintro e w8 ⟨rfl, rfl⟩
  have EX : lay (tear [3] (lay zs ([] ++ [⟨0, aA⟩])) ([] ++ [⟨0, bB⟩]) 0) [] 0 = [98, 98, 98] ++ cC := ex_read
  rw [EX]
  clear EX
  obtain ⟨f7, hf⟩ : ∃ f7, tear [3] (lay zs ([] ++ [(⟨0, aA⟩ : Wt)])) ([] ++ [⟨0, bB⟩]) 0 = f7 := ⟨_, rfl⟩
  rw [hf] at J7
  clear hf
  obtain ⟨X, hX⟩ : ∃ X, sv ([98, 98, 98] ++ cC) = .string X := ⟨_, rfl⟩
  have HX : Hid (sv ([98, 98, 98] ++ cC) = .string X) := hX
  rw [hX]
  clear hX
  go_wp2_with fail
  refine Calls.mono (RC.out _) ?_
  rintro e w9 ⟨rfl, hb⟩
  have J9 : Hid _ := J7.out.later hb
  have z1 : (st cC).size = 61 := by rw [st_size]; rfl
  have z2 : X.toList = ((⟨#[98, 98, 98]⟩ : ByteArray) ++ st cC).toList := by
    have := HX.out
    injection this with h
    rw [← h]
    exact congrArg ByteArray.toList (st_app [98, 98, 98] cC).symm
  have FF : Hid (Below w.heap.size w w9) := J9.out.below
  go_wp2_with fail
  refine Calls.mono (waitsU w w9 p F7 _ J9.out) ?_
  rintro e w10 ⟨rfl, rfl⟩
  clear J9
  go_wp2
  go_ret
  exact ⟨rfl, FF.out⟩
end Go.Proofs.Ytpcgoimkflgcnaa
