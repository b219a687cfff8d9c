/- SHA-256: the digest by blocks of the text with what stands behind it. -/
import Derived.Test.YtbkefhfbbhdpcaaDoorKS
namespace Go.Proofs.Hs

def pushes (m : Mach) (l : List UInt8) : Mach := l.foldl Mach.push m
theorem pushes_words (n0 : Nat) (h0 : n0 % 64 = 0) (hlt : n0 < 2 ^ 64) : ∀ (k j : Nat) (l : List UInt8) (m : Mach), l.length = 4 * k → j + k = 16 → m.r.length = 16 → m.n = (n0 + 4 * j) % 2 ^ 64 → pushes m l = ⟨m.v, m.r.take j ++ words l, (n0 + 64) % 2 ^ 64⟩ := by
  intro k
  induction k with
  | zero =>
    intro j l m hl hj hr hn
    obtain rfl : l = [] := List.length_eq_zero_iff.1 (by omega)
    obtain rfl : j = 16 := by omega
    show m = _
    obtain ⟨v, r, n⟩ := m
    simp only at hr hn ⊢
    rw [List.take_of_length_le (by omega), hn]
    show _ = (⟨v, r ++ [], _⟩ : Mach)
    rw [List.append_nil]
  | succ k ih =>
    intro j l m hl hj hr hn
    match l, hl with
    | a :: b :: c :: d :: rest, hl =>
      have hj16 : j < 16 := by omega
      rw [Nat.mod_eq_of_lt (by omega)] at hn
      have f := four m n0 j h0 hlt hj16 hn hr a b c d
      show pushes ((((m.push a).push b).push c).push d) rest = _
      rw [f, ih (j + 1) rest _ (by simp at hl; omega) (by omega) (by simpa using hr) rfl]
      simp only
      congr 1
      show (m.r.set j (word4 a b c d)).take (j + 1) ++ words rest = m.r.take j ++ (word4 a b c d :: words rest)
      rw [List.take_succ_eq_append_getElem (by simp [hr]; omega), List.getElem_set_self, List.take_set_of_le (Nat.le_refl _), List.append_assoc]
      rfl
theorem words_len : ∀ (k : Nat) (l : List UInt8), l.length = 4 * k → (words l).length = k := by
  intro k
  induction k with
  | zero => intro l hl; obtain rfl : l = [] := List.length_eq_zero_iff.1 (by omega); rfl
  | succ k ih =>
    intro l hl
    match l, hl with
    | a :: b :: c :: d :: rest, hl =>
      show (words rest).length + 1 = k + 1
      rw [ih rest (by simp at hl; omega)]

theorem text_pushes : ∀ (l : List UInt8) (m : Mach), 0 < l.length → m.n % 64 + l.length = 64 → m.text l = (pushes m l).mix := by
  intro l
  induction l with
  | nil => intro m h _; simp at h
  | cons c r ih =>
    intro m _ hn
    simp only [List.length_cons] at hn
    have e : (m.push c).n = (m.n + 1) % 2 ^ 64 := rfl
    show (m.put c).text r = (pushes (m.push c) r).mix
    unfold Mach.put
    by_cases hr : r.length = 0
    · obtain rfl : r = [] := List.length_eq_zero_iff.1 hr
      simp only
      rw [if_pos (by rw [e]; simp at hn; omega)]
      rfl
    · simp only
      rw [if_neg (by rw [e]; omega)]
      exact ih _ (by omega) (by rw [e]; omega)

/-- Eight words, with a block. -/
def comp (v : V8) (b : List UInt8) : V8 := v.plus (rnds v (wf (words b)) 64)
theorem mixb (v : V8) (r : List UInt32) (n : Nat) : ((⟨v, r, n⟩ : Mach).mix).v = v.plus (rounds v r 64).1 ∧ ((⟨v, r, n⟩ : Mach).mix).n = n ∧ ((⟨v, r, n⟩ : Mach).mix).r = (rounds v r 64).2 := by
  refine ⟨?_, ?_, ?_⟩ <;> simp only [Mach.mix]
theorem block_in (m : Mach) (l : List UInt8) (hl : l.length = 64) (h0 : m.n % 64 = 0) (hlt : m.n < 2 ^ 64) (hr : m.r.length = 16) :
    (m.text l).v = comp m.v l ∧ (m.text l).n = (m.n + 64) % 2 ^ 64 ∧ (m.text l).r.length = 16 := by
  have e : m.text l = (⟨m.v, words l, (m.n + 64) % 2 ^ 64⟩ : Mach).mix := by
    rw [text_pushes l m (by omega) (by omega), pushes_words m.n h0 hlt 16 0 l m (by omega) (by omega) hr (by rw [Nat.mod_eq_of_lt (by omega)]; rfl)]
    rfl
  have hw := words_len 16 l (by omega)
  have inv := ring_inv m.v (words l) hw 64 (by omega)
  obtain ⟨a, b, c⟩ := mixb m.v (words l) ((m.n + 64) % 2 ^ 64)
  rw [e]
  refine ⟨?_, b, by rw [c]; exact inv.1⟩
  rw [a, inv.2]
  unfold comp
  rfl

/-- Behind k blocks. -/
def cmpN (v : V8) (l : List UInt8) : Nat → V8
  | 0 => v
  | k + 1 => comp (cmpN v l k) ((l.drop (64 * k)).take 64)
theorem text_append (m : Mach) (s t : List UInt8) : m.text (s ++ t) = (m.text s).text t := by unfold Mach.text; rw [List.foldl_append]
theorem blocks_in (m : Mach) (h0 : m.n % 64 = 0) (hlt : m.n < 2 ^ 64) (hr : m.r.length = 16) (l : List UInt8) : ∀ k, 64 * k ≤ l.length →
    (m.text (l.take (64 * k))).v = cmpN m.v l k ∧ (m.text (l.take (64 * k))).n % 64 = 0 ∧ (m.text (l.take (64 * k))).n < 2 ^ 64 ∧ (m.text (l.take (64 * k))).r.length = 16 := by
  intro k
  induction k with
  | zero => intro _; exact ⟨rfl, h0, hlt, hr⟩
  | succ k ih =>
    intro hk
    obtain ⟨h1, h2, h3, h4⟩ := ih (by omega)
    have e : l.take (64 * (k + 1)) = l.take (64 * k) ++ (l.drop (64 * k)).take 64 := by
      rw [show 64 * (k + 1) = 64 * k + 64 by omega, List.take_add]
    rw [e, text_append]
    obtain ⟨q1, q2, q3⟩ := block_in _ ((l.drop (64 * k)).take 64) (by rw [List.length_take, List.length_drop]; omega) h2 h3 h4
    rw [q1, h1, q2]
    exact ⟨rfl, by omega, Nat.mod_lt _ (by decide), q3⟩

/-- A text, and what stands behind it. -/
def pd (l : List UInt8) : List UInt8 := l ++ ([128] ++ List.replicate ((119 - l.length % 64) % 64) 0 ++ be8 (8 * l.length % 2 ^ 64))
theorem pd_len (l : List UInt8) : (pd l).length = l.length + (119 - l.length % 64) % 64 + 9 := by
  unfold pd be8
  simp
  omega
theorem put_count (m : Mach) (c : UInt8) : (m.put c).n = (m.n + 1) % 2 ^ 64 := by
  unfold Mach.put Mach.push Mach.mix
  simp only
  split <;> rfl
theorem text_count (l : List UInt8) : ∀ m : Mach, m.n < 2 ^ 64 → (m.text l).n = (m.n + l.length) % 2 ^ 64 := by
  induction l with
  | nil => intro m h; exact (Nat.mod_eq_of_lt h).symm
  | cons c r ih =>
    intro m h
    show ((m.put c).text r).n = _
    rw [ih _ (by rw [put_count]; exact Nat.mod_lt _ (by decide)), put_count, List.length_cons]
    omega

theorem sha_pd (l : List UInt8) (hl : l.length < 2 ^ 63) : sha l = (cmpN start.v (pd l) ((pd l).length / 64)).out := by
  have hn : (start.text l).n = l.length := by
    rw [text_count l start (by decide)]
    show (0 + l.length) % 2 ^ 64 = _
    omega
  have e : sha l = (start.text (pd l)).v.out := by
    unfold sha Mach.fin pd
    rw [text_append, text_append, text_append]
    show (((start.text l).put 128).pad.text (be8 (8 * (start.text l).n % 2 ^ 64))).v.out = ((((start.text l).text [128]).text (List.replicate ((119 - l.length % 64) % 64) 0)).text (be8 (8 * l.length % 2 ^ 64))).v.out
    unfold Mach.pad
    rw [put_count, hn]
    have : padn ((l.length + 1) % 2 ^ 64) = (119 - l.length % 64) % 64 := by unfold padn; omega
    rw [this]
    rfl
  have hlen := pd_len l
  have h64 : 64 * ((pd l).length / 64) = (pd l).length := by omega
  have b := (blocks_in start (by decide) (by decide) rfl (pd l) ((pd l).length / 64) (by omega)).1
  rw [h64, List.take_of_length_le (Nat.le_refl _)] at b
  rw [e, b]
end Go.Proofs.Hs
