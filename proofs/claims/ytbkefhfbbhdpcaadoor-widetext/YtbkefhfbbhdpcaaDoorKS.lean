/- SHA-256 by blocks: the machine that takes bytes in over a ring comes to the same. -/
import Derived.Test.YtbkefhfbbhdpcaaDoorKM
namespace Go.Proofs.Hs

/-- One word more. -/
def grow (l : List UInt32) : List UInt32 := l ++ [l.getD (l.length - 16) 0 + (spread (l.getD (l.length - 15) 0) 7 18 3) + l.getD (l.length - 7) 0 + (spread (l.getD (l.length - 2) 0) 17 19 10)]
def sch (r : List UInt32) : Nat → List UInt32
  | 0 => r
  | k + 1 => grow (sch r k)
theorem sch_len (r : List UInt32) (k : Nat) : (sch r k).length = r.length + k := by
  induction k with
  | zero => rfl
  | succ k ih => rw [sch, grow, List.length_append, ih]; rfl
theorem sch_keep (r : List UInt32) (k d m : Nat) (h : m < r.length + k) : (sch r (k + d)).getD m 0 = (sch r k).getD m 0 := by
  induction d with
  | zero => rfl
  | succ d ih =>
    rw [← ih, show k + (d + 1) = (k + d) + 1 by omega, sch, grow]
    rw [List.getD_eq_getElem?_getD, List.getElem?_append_left (by rw [sch_len]; omega), ← List.getD_eq_getElem?_getD]
/-- The words of a block. -/
def wf (r : List UInt32) (m : Nat) : UInt32 := (sch r 48).getD m 0
theorem wf_lo (r : List UInt32) (hr : r.length = 16) (m : Nat) (h : m < 16) : wf r m = r.getD m 0 := by
  have := sch_keep r 0 48 m (by omega)
  rw [Nat.zero_add] at this
  exact this
theorem wf_hi (r : List UInt32) (hr : r.length = 16) (m : Nat) (h : 16 ≤ m) (h64 : m < 64) : wf r m = wf r (m - 16) + (spread (wf r (m - 15)) 7 18 3 + wf r (m - 7) + spread (wf r (m - 2)) 17 19 10) := by
  obtain ⟨k, rfl⟩ : ∃ k, m = 16 + k := ⟨m - 16, by omega⟩
  have e : ∀ j, j < 16 + k → wf r j = (sch r k).getD j 0 := fun j hj => by
    have := sch_keep r k (48 - k) j (by omega)
    rw [show k + (48 - k) = 48 by omega] at this
    exact this
  have e2 : wf r (16 + k) = (sch r (k + 1)).getD (16 + k) 0 := by
    have := sch_keep r (k + 1) (48 - (k + 1)) (16 + k) (by omega)
    rw [show k + 1 + (48 - (k + 1)) = 48 by omega] at this
    exact this
  rw [e2, sch, grow, List.getD_eq_getElem?_getD, List.getElem?_append_right (by rw [sch_len]; omega), sch_len, hr, Nat.sub_self]
  rw [e (16 + k - 16) (by omega), e (16 + k - 15) (by omega), e (16 + k - 7) (by omega), e (16 + k - 2) (by omega)]
  show ((sch r k).getD (16 + k - 16) 0 + spread ((sch r k).getD (16 + k - 15) 0) 7 18 3 + (sch r k).getD (16 + k - 7) 0 + spread ((sch r k).getD (16 + k - 2) 0) 17 19 10) = _
  rw [UInt32.add_assoc, UInt32.add_assoc, UInt32.add_assoc]

/-- The rounds over a list of words. -/
def rnds (v : V8) (f : Nat → UInt32) : Nat → V8
  | 0 => v
  | n + 1 => rnd (rnds v f n) (kst.getD n 0) (f n)

theorem ring_of (v : V8) (r : List UInt32) (hr : r.length = 16) (f : Nat → UInt32) (hf0 : ∀ m, m < 16 → f m = r.getD m 0) (hf1 : ∀ m, 16 ≤ m → m < 64 → f m = f (m - 16) + (spread (f (m - 15)) 7 18 3 + f (m - 7) + spread (f (m - 2)) 17 19 10)) : ∀ i, i ≤ 64 → (rounds v r i).2.length = 16 ∧ (∀ m, m < 64 → i ≤ m + 16 → (m < i ∨ m < 16) → (rounds v r i).2.getD (m % 16) 0 = f m) ∧ (rounds v r i).1 = rnds v f i := by
  intro i
  induction i with
  | zero =>
    intro _
    refine ⟨hr, fun m hm _ h => ?_, rfl⟩
    rw [Nat.mod_eq_of_lt (by omega), hf0 m (by omega)]
    rfl
  | succ i ih =>
    intro hi
    obtain ⟨h1, h2, h3⟩ := ih (by omega)
    have key : (wring (rounds v r i).2 i).length = 16 ∧ (∀ m, m < 64 → i + 1 ≤ m + 16 → (m < i + 1 ∨ m < 16) → (wring (rounds v r i).2 i).getD (m % 16) 0 = f m) := by
      by_cases h16 : i < 16
      · have e : wring (rounds v r i).2 i = (rounds v r i).2 := by unfold wring; rw [if_pos h16]
        rw [e]
        exact ⟨h1, fun m hm _ h => h2 m hm (by omega) (by omega)⟩
      · have e : wring (rounds v r i).2 i = (rounds v r i).2.set (i % 16) (f i) := by
          unfold wring rat
          rw [if_neg h16]
          have q0 := h2 (i - 16) (by omega) (by omega) (by omega)
          have q15 := h2 (i - 15) (by omega) (by omega) (by omega)
          have q7 := h2 (i - 7) (by omega) (by omega) (by omega)
          have q2 := h2 (i - 2) (by omega) (by omega) (by omega)
          rw [show (i - 16) % 16 = i % 16 by omega] at q0
          rw [q0, q15, q7, q2, ← hf1 i (by omega) (by omega)]
        rw [e]
        refine ⟨by simpa using h1, fun m hm hm1 hm2 => ?_⟩
        by_cases hmi : m = i
        · subst hmi
          rw [List.getD_eq_getElem?_getD, List.getElem?_set_self (by rw [h1]; omega)]
          rfl
        · rw [List.getD_eq_getElem?_getD, List.getElem?_set_ne (by omega), ← List.getD_eq_getElem?_getD]
          exact h2 m hm (by omega) (by omega)
    refine ⟨key.1, key.2, ?_⟩
    show rnd (rounds v r i).1 (kst.getD i 0) (rat (wring (rounds v r i).2 i) i) = _
    rw [h3]
    unfold rat
    rw [key.2 i (by omega) (by omega) (by omega)]
    rfl

theorem ring_inv (v : V8) (r : List UInt32) (hr : r.length = 16) (i : Nat) (hi : i ≤ 64) : (rounds v r i).2.length = 16 ∧ (rounds v r i).1 = rnds v (wf r) i :=
  ⟨(ring_of v r hr (wf r) (wf_lo r hr) (wf_hi r hr) i hi).1, (ring_of v r hr (wf r) (wf_lo r hr) (wf_hi r hr) i hi).2.2⟩

/-- Four bytes as a word. -/
def word4 (a b c d : UInt8) : UInt32 := UInt32.ofNat (((a.toNat * 256 + b.toNat) * 256 + c.toNat) * 256 + d.toNat)
def words : List UInt8 → List UInt32
  | a :: b :: c :: d :: r => word4 a b c d :: words r
  | _ => []

theorem push4 (x : UInt32) (a b c d : UInt8) : UInt32.ofNat ((UInt32.ofNat ((UInt32.ofNat ((UInt32.ofNat (x.toNat * 256 + a.toNat)).toNat * 256 + b.toNat)).toNat * 256 + c.toNat)).toNat * 256 + d.toNat) = word4 a b c d := by
  unfold word4
  apply UInt32.toNat_inj.1
  simp only [UInt32.toNat_ofNat']
  have h1 := a.toNat_lt
  have h2 := b.toNat_lt
  have h3 := c.toNat_lt
  have h4 := d.toNat_lt
  omega

/-- The words so far, and what was there. -/
theorem four (m : Mach) (n0 j : Nat) (h0 : n0 % 64 = 0) (hlt : n0 < 2 ^ 64) (hj : j < 16) (hn : m.n = n0 + 4 * j) (hr : m.r.length = 16) (a b c d : UInt8) :
    (((m.push a).push b).push c).push d = ⟨m.v, m.r.set j (word4 a b c d), (n0 + 4 * (j + 1)) % 2 ^ 64⟩ := by
  have k0 : m.n / 4 % 16 = j := by omega
  have s1 : m.push a = ⟨m.v, m.r.set j (UInt32.ofNat ((m.r.getD j 0).toNat * 256 + a.toNat)), n0 + 4 * j + 1⟩ := by
    unfold Mach.push; rw [k0, hn, Nat.mod_eq_of_lt (by omega)]
  have g : ∀ x : UInt32, (m.r.set j x).getD j 0 = x := fun x => by
    rw [List.getD_eq_getElem?_getD, List.getElem?_set_self (by rw [hr]; exact hj)]; rfl
  have s2 : (m.push a).push b = ⟨m.v, m.r.set j (UInt32.ofNat ((UInt32.ofNat ((m.r.getD j 0).toNat * 256 + a.toNat)).toNat * 256 + b.toNat)), n0 + 4 * j + 2⟩ := by
    rw [s1]; unfold Mach.push
    simp only
    rw [show (n0 + 4 * j + 1) / 4 % 16 = j by omega, g, List.set_set, Nat.mod_eq_of_lt (by omega)]
  have s3 : ((m.push a).push b).push c = ⟨m.v, m.r.set j (UInt32.ofNat ((UInt32.ofNat ((UInt32.ofNat ((m.r.getD j 0).toNat * 256 + a.toNat)).toNat * 256 + b.toNat)).toNat * 256 + c.toNat)), n0 + 4 * j + 3⟩ := by
    rw [s2]; unfold Mach.push
    simp only
    rw [show (n0 + 4 * j + 2) / 4 % 16 = j by omega, g, List.set_set, Nat.mod_eq_of_lt (by omega)]
  rw [s3]; unfold Mach.push
  simp only
  rw [show (n0 + 4 * j + 3) / 4 % 16 = j by omega, g, List.set_set, push4]
  rw [show n0 + 4 * j + 3 + 1 = n0 + 4 * (j + 1) by omega]
end Go.Proofs.Hs
