/- ChaCha20's quarter rounds, word by word: pure. -/
import Derived.Test.YtbkefhfbbhdpcaaDoorSM
namespace Go.Proofs.Cc

def qa (a b c d : UInt32) : UInt32 :=
  let a1 := a + b
  let d1 := lft (d ^^^ a1) 16
  let c1 := c + d1
  let b1 := lft (b ^^^ c1) 12
  a1 + b1
def qd (a b c d : UInt32) : UInt32 :=
  let a1 := a + b
  let d1 := lft (d ^^^ a1) 16
  let c1 := c + d1
  let b1 := lft (b ^^^ c1) 12
  lft (d1 ^^^ (a1 + b1)) 8
def qc (a b c d : UInt32) : UInt32 :=
  let a1 := a + b
  let d1 := lft (d ^^^ a1) 16
  let c1 := c + d1
  let b1 := lft (b ^^^ c1) 12
  c1 + lft (d1 ^^^ (a1 + b1)) 8
def qb (a b c d : UInt32) : UInt32 :=
  let a1 := a + b
  let d1 := lft (d ^^^ a1) 16
  let c1 := c + d1
  let b1 := lft (b ^^^ c1) 12
  lft (b1 ^^^ (c1 + lft (d1 ^^^ (a1 + b1)) 8)) 7
theorem getD_set_self (l : List UInt32) (i : Nat) (x : UInt32) (h : i < l.length) : (l.set i x).getD i 0 = x := by
  rw [List.getD_eq_getElem?_getD, List.getElem?_set_self h]; rfl
theorem getD_set_ne (l : List UInt32) (i j : Nat) (x : UInt32) (h : i ≠ j) : (l.set i x).getD j 0 = l.getD j 0 := by
  rw [List.getD_eq_getElem?_getD, List.getElem?_set_ne h, List.getD_eq_getElem?_getD]
/-- Half a quarter round by its four words. -/
theorem hq_eq (n m : Nat) (l : List UInt32) (a b c d : Nat) (ha : a < l.length) (hc : c < l.length) (hd : d < l.length) (ab : a ≠ b) (ac : a ≠ c) (ad : a ≠ d) (bc : b ≠ c) (bd : b ≠ d) (cd : c ≠ d) :
    hq n m l a b c d = (((l.set a (l.getD a 0 + l.getD b 0)).set d (lft (l.getD d 0 ^^^ (l.getD a 0 + l.getD b 0)) n)).set c (l.getD c 0 + lft (l.getD d 0 ^^^ (l.getD a 0 + l.getD b 0)) n)).set b (lft (l.getD b 0 ^^^ (l.getD c 0 + lft (l.getD d 0 ^^^ (l.getD a 0 + l.getD b 0)) n)) m) := by
  unfold hq
  simp only
  rw [getD_set_ne l a d _ ad, getD_set_self l a _ ha]
  have e1 : ∀ x y, ((l.set a x).set d y).getD c 0 = l.getD c 0 := fun x y => by rw [getD_set_ne _ d c _ cd.symm, getD_set_ne _ a c _ ac]
  have e2 : ∀ x y, ((l.set a x).set d y).getD d 0 = y := fun x y => getD_set_self _ _ _ (by simpa using hd)
  rw [e1, e2]
  have e3 : ∀ x y z, (((l.set a x).set d y).set c z).getD b 0 = l.getD b 0 := fun x y z => by rw [getD_set_ne _ c b _ bc.symm, getD_set_ne _ d b _ bd.symm, getD_set_ne _ a b _ ab]
  have e4 : ∀ x y z, (((l.set a x).set d y).set c z).getD c 0 = z := fun x y z => getD_set_self _ _ _ (by simpa using hc)
  rw [e3, e4]
theorem set4 (l : List UInt32) (a b c d : Nat) (x y z t x' y' z' t' : UInt32) (ab : a ≠ b) (ac : a ≠ c) (ad : a ≠ d) (bc : b ≠ c) (bd : b ≠ d) (cd : c ≠ d) :
    (((((((l.set a x).set d t).set c z).set b y).set a x').set d t').set c z').set b y' = (((l.set a x').set b y').set c z').set d t' := by
  apply List.ext_getElem?
  intro i
  simp only [List.getElem?_set, List.length_set]
  by_cases ha : a = i
  · subst ha; simp [ab.symm, ac.symm, ad.symm]
  · by_cases hb : b = i
    · subst hb; simp [bc.symm, bd.symm]
    · by_cases hc : c = i
      · subst hc; simp [hb, cd.symm]
      · by_cases hd : d = i
        · subst hd; simp [hb, hc]
        · simp [ha, hb, hc, hd]
theorem get4 (l : List UInt32) (a b c d : Nat) (x y z t : UInt32) (ha : a < l.length) (hb : b < l.length) (hc : c < l.length) (hd : d < l.length) (ab : a ≠ b) (ac : a ≠ c) (ad : a ≠ d) (bc : b ≠ c) (bd : b ≠ d) (cd : c ≠ d) :
    ((((l.set a x).set d t).set c z).set b y).getD a 0 = x ∧ ((((l.set a x).set d t).set c z).set b y).getD b 0 = y ∧ ((((l.set a x).set d t).set c z).set b y).getD c 0 = z ∧ ((((l.set a x).set d t).set c z).set b y).getD d 0 = t := by
  refine ⟨?_, ?_, ?_, ?_⟩
  · rw [getD_set_ne _ b a _ ab.symm, getD_set_ne _ c a _ ac.symm, getD_set_ne _ d a _ ad.symm, getD_set_self _ _ _ ha]
  · exact getD_set_self _ _ _ (by simpa using hb)
  · rw [getD_set_ne _ b c _ bc, getD_set_self _ _ _ (by simpa using hc)]
  · rw [getD_set_ne _ b d _ bd, getD_set_ne _ c d _ cd, getD_set_self _ _ _ (by simpa using hd)]
/-- A quarter round by its four words. -/
theorem qr_eq (l : List UInt32) (a b c d : Nat) (ha : a < l.length) (hb : b < l.length) (hc : c < l.length) (hd : d < l.length) (ab : a ≠ b) (ac : a ≠ c) (ad : a ≠ d) (bc : b ≠ c) (bd : b ≠ d) (cd : c ≠ d) :
    qr l a b c d = (((l.set a (qa (l.getD a 0) (l.getD b 0) (l.getD c 0) (l.getD d 0))).set b (qb (l.getD a 0) (l.getD b 0) (l.getD c 0) (l.getD d 0))).set c (qc (l.getD a 0) (l.getD b 0) (l.getD c 0) (l.getD d 0))).set d (qd (l.getD a 0) (l.getD b 0) (l.getD c 0) (l.getD d 0)) := by
  unfold qr
  rw [hq_eq 16 12 l a b c d ha hc hd ab ac ad bc bd cd]
  generalize hx : l.getD a 0 + l.getD b 0 = x
  generalize ht : lft (l.getD d 0 ^^^ x) 16 = t
  generalize hz : l.getD c 0 + t = z
  generalize hy : lft (l.getD b 0 ^^^ z) 12 = y
  rw [hq_eq 8 7 _ a b c d (by simpa using ha) (by simpa using hc) (by simpa using hd) ab ac ad bc bd cd]
  obtain ⟨g1, g2, g3, g4⟩ := get4 l a b c d x y z t ha hb hc hd ab ac ad bc bd cd
  rw [g1, g2, g3, g4, set4 _ _ _ _ _ _ _ _ _ _ _ _ _ ab ac ad bc bd cd]
  unfold qa qb qc qd
  simp only [hx, ht, hz, hy]

/-- Four bytes' word, by their bits. -/
theorem or_bytes (a b c d : Nat) (ha : a < 256) (hb : b < 256) (hc : c < 256) : a ||| b * 256 ||| c * 65536 ||| d * 16777216 = a + b * 256 + c * 65536 + d * 16777216 := by
  have e1 : a ||| b * 256 = a + b * 256 := by
    have := Nat.shiftLeft_add_eq_or_of_lt (show a < 2 ^ 8 by omega) b
    rw [Nat.shiftLeft_eq] at this
    rw [Nat.or_comm, ← this]; omega
  have e2 : (a + b * 256) ||| c * 65536 = a + b * 256 + c * 65536 := by
    have := Nat.shiftLeft_add_eq_or_of_lt (show a + b * 256 < 2 ^ 16 by omega) c
    rw [Nat.shiftLeft_eq] at this
    rw [Nat.or_comm, ← this]; omega
  have e3 : (a + b * 256 + c * 65536) ||| d * 16777216 = a + b * 256 + c * 65536 + d * 16777216 := by
    have := Nat.shiftLeft_add_eq_or_of_lt (show a + b * 256 + c * 65536 < 2 ^ 24 by omega) d
    rw [Nat.shiftLeft_eq] at this
    rw [Nat.or_comm, ← this]; omega
  rw [e1, e2, e3]
/-- A block's bytes by its words at first. -/
def wbn (l : List UInt32) (i : Nat) : List UInt8 := (List.range i).flatMap fun j => le4 ((rounds l 10).getD j 0 + l.getD j 0)
theorem wbn_succ (l : List UInt32) (i : Nat) : wbn l (i + 1) = wbn l i ++ le4 ((rounds l 10).getD i 0 + l.getD i 0) := by simp [wbn, List.range_succ]
theorem wbn_blk (k n : List UInt8) (c : UInt32) : wbn (fstw k n c) 16 = blk k n c := rfl
theorem wbn_len (l : List UInt32) (i : Nat) : (wbn l i).length = 4 * i := by
  induction i with
  | zero => rfl
  | succ i ih => rw [wbn_succ, List.length_append, ih]; simp [le4]; omega
/-- Eight quarter rounds, one behind the other. -/
theorem round_eq (l : List UInt32) : dias (cols l 4) 4 = qr (qr (qr (qr (qr (qr (qr (qr l 0 4 8 12) 1 5 9 13) 2 6 10 14) 3 7 11 15) 0 5 10 15) 1 6 11 12) 2 7 8 13) 3 4 9 14 := rfl
end Go.Proofs.Cc
