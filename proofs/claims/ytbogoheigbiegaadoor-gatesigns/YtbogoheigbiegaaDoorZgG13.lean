/- Messages of links, pure: which may be, their texts, and back. -/
import Derived.WalkKit
namespace Go.Proofs.Ml
structure Sl where
  id : ByteArray
  tx : ByteArray
structure Ml where
  k : Int
  u : Int
  q : Int
  t : ByteArray
  g : ByteArray
  sl : List Sl
  ids : List ByteArray
def e0 : ByteArray := ⟨#[]⟩
def zm : Ml := ⟨0, 0, 0, e0, e0, [], []⟩
abbrev zr (n : Nat) : List UInt8 := List.replicate n 0
abbrev by' (s : ByteArray) : List UInt8 := s.data.toList
def idB (s : ByteArray) : Bool := decide (s.size = 16) && !decide (by' s = zr 16)
def emB (s : Sl) : Bool := decide (s.id.size = 0) && decide (s.tx.size = 0)
def okS (s : Sl) : Bool := idB s.id && decide (s.tx.size ≤ 222)
def slB : List Sl → Bool → Bool
  | [], _ => true
  | s :: r, e => if emB s = true then slB r true else if e = true then false else if okS s = true then slB r false else false
def idsB (l : List ByteArray) : Bool := l.all idB
def numB (m : Ml) : Bool := decide (0 ≤ m.u) && decide (m.u < 64) && decide (1 ≤ m.q) && decide (m.q ≤ 2147483647)
def szB (m : Ml) (t g s i : Nat) : Bool := decide (m.t.size = t) && decide (m.g.size = g) && decide (m.sl.length = s) && decide (m.ids.length ≤ i)
def okB (m : Ml) : Bool :=
  if m.k = 1 then decide (m.u = 0) && decide (m.q = 0) && szB m 504 0 0 0
  else if m.k = 2 then numB m && szB m 0 32 0 0
  else if m.k = 3 then numB m && szB m 0 0 4 0 && slB m.sl false
  else if m.k = 4 then numB m && szB m 0 32 0 4 && idsB m.ids
  else false
def long (k : Int) : Nat := if k = 1 then 505 else if k = 2 then 38 else if k = 3 then 962 else if k = 4 then 102 else 0
def b8 (n : Int) : UInt8 := UInt8.ofNat (n % 256).toNat
def lead (m : Ml) : List UInt8 := if m.k = 1 then [1] else [b8 m.k, b8 m.u, b8 (m.q / 16777216), b8 (m.q / 65536), b8 (m.q / 256), b8 m.q]
def pad (n : Nat) (l : List UInt8) : List UInt8 := l ++ zr (n - l.length)
def slot (s : Sl) : List UInt8 := pad 239 (by' s.id ++ ([UInt8.ofNat s.tx.size] ++ by' s.tx))
def slots (l : List Sl) : List UInt8 := l.flatMap slot
def flat (l : List ByteArray) : List UInt8 := l.flatMap by'
def body (m : Ml) : List UInt8 := lead m ++ (by' m.t ++ (by' m.g ++ (flat m.ids ++ slots m.sl)))
def txt (m : Ml) : List UInt8 := pad (long m.k) (body m)
theorem pad_len (n : Nat) (l : List UInt8) (h : l.length ≤ n) : (pad n l).length = n := by unfold pad; simp; omega
theorem by_len (s : ByteArray) : (by' s).length = s.size := by simp
theorem nil_of {s : ByteArray} (h : s.size = 0) : s = e0 := by
  cases s with | mk d => cases d with | mk l => cases l with
    | nil => rfl
    | cons x r => simp [ByteArray.size] at h
theorem size_e0 : e0.size = 0 := rfl
theorem by_e0 : by' e0 = [] := rfl
theorem Sl.ext {a b : Sl} (h1 : a.id = b.id) (h2 : a.tx = b.tx) : a = b := by cases a; cases b; cases h1; cases h2; rfl
theorem em_of {s : Sl} (h : emB s = true) : s = ⟨e0, e0⟩ := by
  unfold emB at h
  rw [Bool.and_eq_true] at h
  exact Sl.ext (nil_of (of_decide_eq_true h.1)) (nil_of (of_decide_eq_true h.2))
theorem id_of {s : ByteArray} (h : idB s = true) : s.size = 16 ∧ by' s ≠ zr 16 := by
  unfold idB at h
  rw [Bool.and_eq_true] at h
  refine ⟨of_decide_eq_true h.1, fun e => ?_⟩
  rw [decide_eq_true e] at h
  exact absurd h.2 (by decide)
theorem okS_of {s : Sl} (h : okS s = true) : (s.id.size = 16 ∧ by' s.id ≠ zr 16) ∧ s.tx.size ≤ 222 := by
  unfold okS at h
  rw [Bool.and_eq_true] at h
  exact ⟨id_of h.1, of_decide_eq_true h.2⟩
theorem slB_each : ∀ (l : List Sl) (e : Bool), slB l e = true → ∀ s ∈ l, emB s = true ∨ okS s = true := by
  intro l
  induction l with
  | nil => intro e _ s hs; cases hs
  | cons x r ih =>
    intro e h s hs
    unfold slB at h
    by_cases q : emB x = true
    · rw [if_pos q] at h
      rcases List.mem_cons.1 hs with rfl | hs
      · exact .inl q
      · exact ih _ h s hs
    · rw [if_neg q] at h
      by_cases q1 : e = true
      · rw [if_pos q1] at h; cases h
      · rw [if_neg q1] at h
        by_cases q2 : okS x = true
        · rw [if_pos q2] at h
          rcases List.mem_cons.1 hs with rfl | hs
          · exact .inr q2
          · exact ih _ h s hs
        · rw [if_neg q2] at h; cases h
theorem num_of {m : Ml} (h : numB m = true) : 0 ≤ m.u ∧ m.u < 64 ∧ 1 ≤ m.q ∧ m.q ≤ 2147483647 := by
  unfold numB at h
  simp only [Bool.and_eq_true, decide_eq_true_eq] at h
  omega
theorem sz_of {m : Ml} {t g s i : Nat} (h : szB m t g s i = true) : m.t.size = t ∧ m.g.size = g ∧ m.sl.length = s ∧ m.ids.length ≤ i := by
  unfold szB at h
  simp only [Bool.and_eq_true, decide_eq_true_eq] at h
  omega
theorem ok_cases {m : Ml} (h : okB m = true) :
    (m.k = 1 ∧ m.u = 0 ∧ m.q = 0 ∧ m.t.size = 504 ∧ m.g = e0 ∧ m.sl = [] ∧ m.ids = []) ∨
    ((m.k = 2 ∨ m.k = 3 ∨ m.k = 4) ∧ (0 ≤ m.u ∧ m.u < 64 ∧ 1 ≤ m.q ∧ m.q ≤ 2147483647) ∧ m.t = e0 ∧
      ((m.k = 2 ∧ m.g.size = 32 ∧ m.sl = [] ∧ m.ids = []) ∨
       (m.k = 3 ∧ m.g = e0 ∧ m.sl.length = 4 ∧ m.ids = [] ∧ slB m.sl false = true) ∨
       (m.k = 4 ∧ m.g.size = 32 ∧ m.sl = [] ∧ m.ids.length ≤ 4 ∧ idsB m.ids = true))) := by
  unfold okB at h
  by_cases h1 : m.k = 1
  · rw [if_pos h1] at h
    simp only [Bool.and_eq_true, decide_eq_true_eq] at h
    obtain ⟨⟨a, b⟩, c⟩ := h
    obtain ⟨c1, c2, c3, c4⟩ := sz_of c
    exact .inl ⟨h1, a, b, c1, nil_of c2, List.length_eq_zero_iff.1 c3, List.length_eq_zero_iff.1 (by omega)⟩
  · rw [if_neg h1] at h
    right
    by_cases h2 : m.k = 2
    · rw [if_pos h2] at h
      simp only [Bool.and_eq_true] at h
      obtain ⟨c1, c2, c3, c4⟩ := sz_of h.2
      exact ⟨.inl h2, num_of h.1, nil_of c1, .inl ⟨h2, c2, List.length_eq_zero_iff.1 c3, List.length_eq_zero_iff.1 (by omega)⟩⟩
    · rw [if_neg h2] at h
      by_cases h3 : m.k = 3
      · rw [if_pos h3] at h
        simp only [Bool.and_eq_true] at h
        obtain ⟨c1, c2, c3, c4⟩ := sz_of h.1.2
        exact ⟨.inr (.inl h3), num_of h.1.1, nil_of c1, .inr (.inl ⟨h3, nil_of c2, c3, List.length_eq_zero_iff.1 (by omega), h.2⟩)⟩
      · rw [if_neg h3] at h
        by_cases h4 : m.k = 4
        · rw [if_pos h4] at h
          simp only [Bool.and_eq_true] at h
          obtain ⟨c1, c2, c3, c4⟩ := sz_of h.1.2
          exact ⟨.inr (.inr h4), num_of h.1.1, nil_of c1, .inr (.inr ⟨h4, c2, List.length_eq_zero_iff.1 c3, c4, h.2⟩)⟩
        · rw [if_neg h4] at h; cases h
theorem slot_len {s : Sl} (h : emB s = true ∨ okS s = true) : (slot s).length = 239 := by
  unfold slot
  apply pad_len
  simp only [List.length_append, by_len, List.length_cons, List.length_nil]
  rcases h with h | h
  · rw [em_of h]; decide
  · obtain ⟨⟨a, -⟩, b⟩ := okS_of h; omega
theorem slots_len : ∀ (l : List Sl), (∀ s ∈ l, emB s = true ∨ okS s = true) → (slots l).length = 239 * l.length := by
  intro l
  induction l with
  | nil => intro _; rfl
  | cons x r ih =>
    intro h
    unfold slots at *
    rw [List.flatMap_cons, List.length_append, slot_len (h x (List.mem_cons_self)), ih (fun s hs => h s (List.mem_cons_of_mem _ hs)), List.length_cons]
    omega
theorem flat_len : ∀ (l : List ByteArray), (∀ s ∈ l, s.size = 16) → (flat l).length = 16 * l.length := by
  intro l
  induction l with
  | nil => intro _; rfl
  | cons x r ih =>
    intro h
    unfold flat at *
    rw [List.flatMap_cons, List.length_append, by_len, h x (List.mem_cons_self), ih (fun s hs => h s (List.mem_cons_of_mem _ hs)), List.length_cons]
    omega
theorem ids_each {l : List ByteArray} (h : idsB l = true) : ∀ s ∈ l, idB s = true := by
  unfold idsB at h
  exact List.all_eq_true.1 h
theorem lead_one {m : Ml} (h : m.k = 1) : lead m = [1] := if_pos h
theorem lead_six {m : Ml} (h : ¬ m.k = 1) : lead m = [b8 m.k, b8 m.u, b8 (m.q / 16777216), b8 (m.q / 65536), b8 (m.q / 256), b8 m.q] := if_neg h
theorem body_len {m : Ml} (h : okB m = true) : (body m).length ≤ long m.k := by
  unfold body
  rcases ok_cases h with ⟨k, -, -, t, g, s, i⟩ | ⟨hk, -, t, ⟨k, g, s, i⟩ | ⟨k, g, s, i, b⟩ | ⟨k, g, s, i, b⟩⟩
  · rw [lead_one k, g, s, i, k]
    simp only [List.length_append, by_len, t]; decide
  · rw [lead_six (by omega), t, s, i, k]
    simp only [List.length_append, by_len, g]
    show 6 + (0 + (32 + (0 + 0))) ≤ 38
    decide
  · rw [lead_six (by omega), t, g, i, k]
    simp only [List.length_append, by_len, slots_len _ (slB_each _ _ b), s]
    show 6 + (0 + (0 + (0 + 239 * 4))) ≤ 962
    decide
  · rw [lead_six (by omega), t, s, k]
    simp only [List.length_append, by_len, g, flat_len _ (fun x hx => (id_of (ids_each b x hx)).1)]
    show 6 + (0 + (32 + (16 * m.ids.length + 0))) ≤ 102
    omega
theorem txt_len {m : Ml} (h : okB m = true) : (txt m).length = long m.k := pad_len _ _ (body_len h)
def mk (l : List UInt8) : ByteArray := ⟨l.toArray⟩
theorem mk_by (s : ByteArray) : mk (by' s) = s := rfl
theorem by_mk (l : List UInt8) : by' (mk l) = l := rfl
theorem mk_size (l : List UInt8) : (mk l).size = l.length := by simp [mk, ByteArray.size]
def nz (l : List UInt8) : Bool := !decide (l = zr 16)
def rIds : Nat → List UInt8 → List ByteArray
  | 0, _ => []
  | n + 1, l => if nz (l.take 16) = true then mk (l.take 16) :: rIds n (l.drop 16) else []
def rIdsR : Nat → List UInt8 → List ByteArray
  | 0, _ => []
  | n + 1, l => if nz (l.take 16) = true then mk (l.take 16) :: rIdsR n (l.drop 16) else rIdsR n (l.drop 16)
def rSlot (l : List UInt8) : Sl := ⟨if nz (l.take 16) = true then mk (l.take 16) else e0, mk ((l.drop 17).take (min ((l.getD 16 0).toNat) 222))⟩
def rSlots : Nat → List UInt8 → List Sl
  | 0, _ => []
  | n + 1, l => rSlot (l.take 239) :: rSlots n (l.drop 239)
def bn (l : List UInt8) (i : Nat) : Nat := (l.getD i 0).toNat
def rSeq (l : List UInt8) : Nat := bn l 2 * 16777216 + bn l 3 * 65536 + bn l 4 * 256 + bn l 5
def rdW (I : List UInt8 → List ByteArray) (l : List UInt8) : Ml :=
  if bn l 0 = 1 then ⟨1, 0, 0, mk (l.drop 1), e0, [], []⟩
  else if bn l 0 = 2 then ⟨2, bn l 1, rSeq l, e0, mk (l.drop 6), [], []⟩
  else if bn l 0 = 3 then ⟨3, bn l 1, rSeq l, e0, e0, rSlots 4 (l.drop 6), []⟩
  else ⟨4, bn l 1, rSeq l, e0, mk ((l.drop 6).take 32), [], I (l.drop 38)⟩
def rd : List UInt8 → Ml := rdW (rIds 4)
def rdR : List UInt8 → Ml := rdW (rIdsR 4)
def fitM (l : List UInt8) : Bool := !decide (l = []) && decide (l.length = long (bn l 0))
def decB (l : List UInt8) : Bool := fitM l && (okB (rd l) && decide (txt (rd l) = l))
def decR (l : List UInt8) : Bool := fitM l && (okB (rdR l) && decide (txt (rdR l) = l))
theorem take_by {s : ByteArray} {n : Nat} (h : s.size = n) (r : List UInt8) : (by' s ++ r).take n = by' s := by
  rw [List.take_append_of_le_length (by rw [by_len]; omega), List.take_of_length_le (by rw [by_len]; omega)]
theorem drop_by {s : ByteArray} {n : Nat} (h : s.size = n) (r : List UInt8) : (by' s ++ r).drop n = r := by
  rw [← h, ← by_len, List.drop_left]
theorem flat_nil : flat [] = [] := rfl
theorem flat_cons (x : ByteArray) (l : List ByteArray) : flat (x :: l) = by' x ++ flat l := by unfold flat; rw [List.flatMap_cons]
theorem nz_zr : nz (zr 16) = false := by decide
theorem nz_of {s : ByteArray} (h : idB s = true) : nz (by' s) = true := by
  unfold nz
  rw [decide_eq_false (id_of h).2]; rfl
theorem zr_take (n m : Nat) : (zr n).take m = zr (min m n) := by simp [zr]
theorem zr_drop (n m : Nat) : (zr n).drop m = zr (n - m) := by simp [zr]
theorem rIds_zr : ∀ n, rIds n (zr (16 * n)) = [] := by
  intro n
  cases n with
  | zero => rfl
  | succ n =>
    unfold rIds
    rw [zr_take, show min 16 (16 * (n + 1)) = 16 by omega, if_neg (by rw [nz_zr]; decide)]
theorem rIdsR_zr : ∀ n, rIdsR n (zr (16 * n)) = [] := by
  intro n
  induction n with
  | zero => rfl
  | succ n ih =>
    unfold rIdsR
    rw [zr_take, show min 16 (16 * (n + 1)) = 16 by omega, if_neg (by rw [nz_zr]; decide), zr_drop, show 16 * (n + 1) - 16 = 16 * n by omega, ih]
theorem rIds_back : ∀ (n : Nat) (l : List ByteArray), (∀ s ∈ l, idB s = true) → l.length ≤ n → rIds n (flat l ++ zr (16 * (n - l.length))) = l := by
  intro n
  induction n with
  | zero =>
    intro l h hl
    obtain rfl := List.length_eq_zero_iff.1 (by omega : l.length = 0)
    rfl
  | succ n ih =>
    intro l h hl
    cases l with
    | nil =>
      rw [flat_nil, List.nil_append]
      exact rIds_zr (n + 1)
    | cons x r =>
      have hx := h x List.mem_cons_self
      unfold rIds
      rw [flat_cons, List.append_assoc, take_by (id_of hx).1, drop_by (id_of hx).1, if_pos (nz_of hx), mk_by, List.length_cons, show n + 1 - (r.length + 1) = n - r.length by omega, ih r (fun s hs => h s (List.mem_cons_of_mem _ hs)) (by simpa using hl)]
theorem rIdsR_back : ∀ (n : Nat) (l : List ByteArray), (∀ s ∈ l, idB s = true) → l.length ≤ n → rIdsR n (flat l ++ zr (16 * (n - l.length))) = l := by
  intro n
  induction n with
  | zero =>
    intro l h hl
    obtain rfl := List.length_eq_zero_iff.1 (by omega : l.length = 0)
    rfl
  | succ n ih =>
    intro l h hl
    cases l with
    | nil =>
      rw [flat_nil, List.nil_append]
      exact rIdsR_zr (n + 1)
    | cons x r =>
      have hx := h x List.mem_cons_self
      unfold rIdsR
      rw [flat_cons, List.append_assoc, take_by (id_of hx).1, drop_by (id_of hx).1, if_pos (nz_of hx), mk_by, List.length_cons, show n + 1 - (r.length + 1) = n - r.length by omega, ih r (fun s hs => h s (List.mem_cons_of_mem _ hs)) (by simpa using hl)]
theorem rSlot_back {s : Sl} (h : emB s = true ∨ okS s = true) : rSlot (slot s) = s := by
  rcases h with h | h
  · rw [em_of h]
    unfold rSlot
    have e : slot ⟨e0, e0⟩ = zr 239 := by
      show (0 : UInt8) :: zr 238 = zr 239
      exact (List.replicate_succ (n := 238)).symm
    rw [e, zr_take, zr_drop]
    rfl
  · obtain ⟨⟨a, b⟩, c⟩ := okS_of h
    unfold okS at h
    rw [Bool.and_eq_true] at h
    unfold rSlot slot pad
    generalize 239 - (by' s.id ++ ([UInt8.ofNat s.tx.size] ++ by' s.tx)).length = z
    have e1 : (by' s.id ++ ([UInt8.ofNat s.tx.size] ++ by' s.tx) ++ zr z) = by' s.id ++ (([UInt8.ofNat s.tx.size] ++ by' s.tx) ++ zr z) := List.append_assoc _ _ _
    rw [e1, take_by a, if_pos (nz_of h.1), mk_by, show (17 : Nat) = 16 + 1 from rfl, ← List.drop_drop, drop_by a]
    have e2 : ((by' s.id ++ (([UInt8.ofNat s.tx.size] ++ by' s.tx) ++ zr z)).getD 16 0) = UInt8.ofNat s.tx.size := by
      rw [List.getD_eq_getElem?_getD, List.getElem?_append_right (by rw [by_len, a]; exact Nat.le_refl _), by_len, a]
      rfl
    rw [e2, UInt8.toNat_ofNat', show min (s.tx.size % 2 ^ 8) 222 = s.tx.size by omega]
    show Sl.mk s.id (mk ((by' s.tx ++ zr z).take s.tx.size)) = s
    rw [take_by rfl, mk_by]
theorem slots_nil : slots [] = [] := rfl
theorem slots_cons (x : Sl) (l : List Sl) : slots (x :: l) = slot x ++ slots l := by unfold slots; rw [List.flatMap_cons]
theorem rSlots_back : ∀ (l : List Sl), (∀ s ∈ l, emB s = true ∨ okS s = true) → rSlots l.length (slots l) = l := by
  intro l
  induction l with
  | nil => intro _; rfl
  | cons x r ih =>
    intro h
    have hx := h x List.mem_cons_self
    have hl := slot_len hx
    rw [List.length_cons]
    unfold rSlots
    rw [slots_cons, ← hl, List.take_left, List.drop_left, rSlot_back hx, ih (fun s hs => h s (List.mem_cons_of_mem _ hs))]
theorem b8_nat (n : Int) : (b8 n).toNat = (n % 256).toNat := by
  unfold b8
  rw [UInt8.toNat_ofNat']
  omega
theorem Ml.ext' {m : Ml} {k u q : Int} {t g : ByteArray} {sl : List Sl} {ids : List ByteArray} (h1 : m.k = k) (h2 : m.u = u) (h3 : m.q = q) (h4 : m.t = t) (h5 : m.g = g) (h6 : m.sl = sl) (h7 : m.ids = ids) : (⟨k, u, q, t, g, sl, ids⟩ : Ml) = m := by
  cases m; cases h1; cases h2; cases h3; cases h4; cases h5; cases h6; cases h7; rfl
theorem rdW_back (I : List UInt8 → List ByteArray) (hI : ∀ l : List ByteArray, (∀ s ∈ l, idB s = true) → l.length ≤ 4 → I (flat l ++ zr (16 * (4 - l.length))) = l) {m : Ml} (h : okB m = true) : rdW I (txt m) = m := by
  rcases ok_cases h with ⟨k, u, q, t, g, s, i⟩ | ⟨hk, ⟨u0, u1, q0, q1⟩, t, hc⟩
  · have e : txt m = 1 :: by' m.t := by
      unfold txt pad
      have : body m = 1 :: by' m.t := by
        unfold body
        rw [lead_one k, g, s, i]
        show [1] ++ (by' m.t ++ ([] ++ ([] ++ []))) = _
        simp
      rw [this, List.length_cons, by_len, t, k]
      show _ ++ zr 0 = _
      simp
    rw [e]
    unfold rdW
    rw [if_pos (show bn (1 :: by' m.t) 0 = 1 from rfl)]
    exact Ml.ext' k u q rfl g s i
  · have n1 : ¬ m.k = 1 := by omega
    obtain ⟨R, hR⟩ : ∃ R, by' m.g ++ (flat m.ids ++ slots m.sl) ++ zr (long m.k - (body m).length) = R := ⟨_, rfl⟩
    have e : txt m = [b8 m.k, b8 m.u, b8 (m.q / 16777216), b8 (m.q / 65536), b8 (m.q / 256), b8 m.q] ++ R := by
      unfold txt pad
      rw [← hR]
      conv => lhs; lhs; unfold body
      rw [lead_six n1, t, by_e0, List.nil_append, List.append_assoc]
    have f0 : (bn (txt m) 0 : Int) = m.k := by
      rw [e]; show ((b8 m.k).toNat : Int) = _; rw [b8_nat]; omega
    have f1 : (bn (txt m) 1 : Int) = m.u := by
      rw [e]; show ((b8 m.u).toNat : Int) = _; rw [b8_nat]; omega
    have f2 : (rSeq (txt m) : Int) = m.q := by
      rw [e]; show (((b8 (m.q / 16777216)).toNat * 16777216 + (b8 (m.q / 65536)).toNat * 65536 + (b8 (m.q / 256)).toNat * 256 + (b8 m.q).toNat : Nat) : Int) = _
      rw [b8_nat, b8_nat, b8_nat, b8_nat]; omega
    have d6 : (txt m).drop 6 = R := by rw [e]; rfl
    have lb := body_len h
    unfold rdW
    rw [if_neg (by omega)]
    rcases hc with ⟨k, g, s, i⟩ | ⟨k, g, s, i, b⟩ | ⟨k, g, s, i, b⟩
    · rw [if_pos (by omega), d6]
      have hb : (body m).length = 38 := by
        unfold body
        rw [lead_six n1, t, s, i]
        simp only [List.length_append, by_len, g]
        rfl
      rw [hb, k, s, i] at hR
      have : R = by' m.g := by
        rw [← hR]
        show by' m.g ++ ([] ++ []) ++ zr 0 = _
        simp
      rw [this, mk_by]
      exact Ml.ext' k f1.symm f2.symm t rfl s i
    · rw [if_neg (by omega), if_pos (by omega), d6]
      have hs := slB_each _ _ b
      have hb : (body m).length = 962 := by
        unfold body
        rw [lead_six n1, t, g, i]
        simp only [List.length_append, by_len, slots_len _ hs, s]
        rfl
      rw [hb, k, g, i] at hR
      have : R = slots m.sl := by
        rw [← hR]
        show [] ++ ([] ++ slots m.sl) ++ zr 0 = _
        simp
      rw [this, ← s, rSlots_back _ hs]
      exact Ml.ext' k f1.symm f2.symm t g rfl i
    · rw [if_neg (by omega), if_neg (by omega), d6]
      have d38 : (txt m).drop 38 = R.drop 32 := by rw [← d6, List.drop_drop]
      rw [d38]
      have hs := ids_each b
      have hb : (body m).length = 38 + 16 * m.ids.length := by
        unfold body
        rw [lead_six n1, t, s]
        simp only [List.length_append, by_len, g, flat_len _ (fun x hx => (id_of (hs x hx)).1)]
        show 6 + (0 + (32 + (16 * m.ids.length + 0))) = _
        omega
      rw [hb, k, s] at hR
      have : R = by' m.g ++ (flat m.ids ++ zr (16 * (4 - m.ids.length))) := by
        rw [← hR, slots_nil, List.append_nil, List.append_assoc]
        show _ ++ (_ ++ zr (102 - (38 + 16 * m.ids.length))) = _
        rw [show 102 - (38 + 16 * m.ids.length) = 16 * (4 - m.ids.length) by omega]
      rw [this, take_by g, drop_by g, mk_by, hI _ hs i]
      exact Ml.ext' k f1.symm f2.symm t rfl s rfl
theorem rd_back {m : Ml} (h : okB m = true) : rd (txt m) = m := rdW_back _ (fun l a b => rIds_back 4 l a b) h
theorem rdR_back {m : Ml} (h : okB m = true) : rdR (txt m) = m := rdW_back _ (fun l a b => rIdsR_back 4 l a b) h
theorem fit_txt {m : Ml} (h : okB m = true) : fitM (txt m) = true := by
  have hl := txt_len h
  have hk : 0 < long m.k := by
    rcases ok_cases h with ⟨k, -⟩ | ⟨k | k | k, -⟩ <;> rw [k] <;> decide
  have h0 : (bn (txt m) 0 : Int) = m.k := by
    have := congrArg Ml.k (rd_back h)
    rcases ok_cases h with ⟨k, u, q, t, g, s, i⟩ | ⟨hk, -, t, -⟩
    · unfold txt pad body
      rw [lead_one k, k]
      rfl
    · unfold txt pad body
      rw [lead_six (by omega)]
      show ((b8 m.k).toNat : Int) = _
      rw [b8_nat]; omega
  unfold fitM
  rw [h0, hl, decide_eq_false (by intro z; rw [z] at hl; simp at hl; omega)]
  simp
theorem dec_txt {m : Ml} (h : okB m = true) : decB (txt m) = true ∧ decR (txt m) = true := by
  unfold decB decR
  rw [rd_back h, rdR_back h, h, fit_txt h]
  simp
end Go.Proofs.Ml
