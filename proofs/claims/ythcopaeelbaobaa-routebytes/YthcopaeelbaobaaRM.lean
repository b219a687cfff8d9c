/- Commands of hops: pure. -/
namespace Go.Proofs.Rt

/-- A command. -/
structure Hp where
  k : Int
  n : Int
  u : Int
  d : Int
  id : ByteArray
/-- It may be. -/
def ok (h : Hp) : Bool :=
  (h.k == 1 && (decide (0 ≤ h.n) && decide (h.n < 32)) && (decide (0 ≤ h.d) && decide (h.d ≤ 4096)) && h.u == 0 && h.id.size == 0)
  || (h.k == 2 && (decide (0 ≤ h.u) && decide (h.u < 64)) && (decide (0 ≤ h.d) && decide (h.d ≤ 4096)) && h.id.size == 16 && h.n == 0)
  || (h.k == 3 && h.id.size == 16 && h.n == 0 && h.u == 0 && h.d == 0)
  || (h.k == 4 && h.n == 0 && h.u == 0 && h.d == 0 && h.id.size == 0)
def chk (h : Hp) : Int := if ok h = true then 0 else 70
theorem ba_zero (b : ByteArray) (h : b.size = 0) : b = ⟨#[]⟩ := by
  apply ByteArray.ext
  have : b.data.size = 0 := h
  exact Array.eq_empty_of_size_eq_zero this
/-- What a command that may be is, kind by kind. -/
theorem ok_cases (h : Hp) (e : ok h = true) :
    (h.k = 1 ∧ 0 ≤ h.n ∧ h.n < 32 ∧ 0 ≤ h.d ∧ h.d ≤ 4096 ∧ h.u = 0 ∧ h.id = ⟨#[]⟩) ∨ (h.k = 2 ∧ 0 ≤ h.u ∧ h.u < 64 ∧ 0 ≤ h.d ∧ h.d ≤ 4096 ∧ h.id.size = 16 ∧ h.n = 0)
    ∨ (h.k = 3 ∧ h.id.size = 16 ∧ h.n = 0 ∧ h.u = 0 ∧ h.d = 0) ∨ (h.k = 4 ∧ h.n = 0 ∧ h.u = 0 ∧ h.d = 0 ∧ h.id = ⟨#[]⟩) := by
  unfold ok at e
  simp only [Bool.or_eq_true, Bool.and_eq_true, beq_iff_eq, decide_eq_true_eq] at e
  rcases e with ((⟨⟨⟨⟨h1, h2, h3⟩, h4, h5⟩, h6⟩, h7⟩ | ⟨⟨⟨⟨h1, h2, h3⟩, h4, h5⟩, h6⟩, h7⟩) | ⟨⟨⟨⟨h1, h2⟩, h3⟩, h4⟩, h5⟩) | ⟨⟨⟨⟨h1, h2⟩, h3⟩, h4⟩, h5⟩
  · exact .inl ⟨h1, h2, h3, h4, h5, h6, ba_zero _ h7⟩
  · exact .inr (.inl ⟨h1, h2, h3, h4, h5, h6, h7⟩)
  · exact .inr (.inr (.inl ⟨h1, h2, h3, h4, h5⟩))
  · exact .inr (.inr (.inr ⟨h1, h2, h3, h4, ba_zero _ h5⟩))
theorem ok_on (n d : Int) (h1 : 0 ≤ n) (h2 : n < 32) (h3 : 0 ≤ d) (h4 : d ≤ 4096) : ok ⟨1, n, 0, d, ⟨#[]⟩⟩ = true := by
  unfold ok; simp [h1, h2, h3, h4]; rfl
theorem ok_home (u d : Int) (id : ByteArray) (h1 : 0 ≤ u) (h2 : u < 64) (h3 : 0 ≤ d) (h4 : d ≤ 4096) (h5 : id.size = 16) : ok ⟨2, 0, u, d, id⟩ = true := by
  unfold ok; simp [h1, h2, h3, h4, h5]
theorem ok_loop (id : ByteArray) (h5 : id.size = 16) : ok ⟨3, 0, 0, 0, id⟩ = true := by
  unfold ok; simp [h5]
theorem ok_drop : ok ⟨4, 0, 0, 0, ⟨#[]⟩⟩ = true := by decide
/-- Its bytes. -/
def byt (h : Hp) : List UInt8 := [UInt8.ofNat h.k.toNat, UInt8.ofNat (h.n + h.u).toNat, UInt8.ofNat (h.d / 256).toNat, UInt8.ofNat (h.d % 256).toNat] ++ h.id.data.toList ++ List.replicate (20 - h.id.size) 0
theorem id_len (h : Hp) (e : ok h = true) : h.id.size = 0 ∨ h.id.size = 16 := by
  rcases ok_cases h e with h | h | h | h
  · left; rw [h.2.2.2.2.2.2]; rfl
  · right; exact h.2.2.2.2.2.1
  · right; exact h.2.1
  · left; rw [h.2.2.2.2]; rfl
theorem byt_len (h : Hp) (e : ok h = true) : (byt h).length = 24 := by
  have := id_len h e
  unfold byt
  simp
  omega
/-- What bytes could be the bytes of. -/
def cand (l : List UInt8) : Hp :=
  if l.getD 0 0 = 1 then ⟨1, ((l.getD 1 0).toNat : Int), 0, ((l.getD 2 0).toNat : Int) * 256 + ((l.getD 3 0).toNat : Int), ⟨#[]⟩⟩
  else if l.getD 0 0 = 2 then ⟨2, 0, ((l.getD 1 0).toNat : Int), ((l.getD 2 0).toNat : Int) * 256 + ((l.getD 3 0).toNat : Int), ⟨((l.drop 4).take 16).toArray⟩⟩
  else if l.getD 0 0 = 3 then ⟨3, 0, 0, 0, ⟨((l.drop 4).take 16).toArray⟩⟩
  else ⟨((l.getD 0 0).toNat : Int), 0, 0, 0, ⟨#[]⟩⟩
def zh : Hp := ⟨0, 0, 0, 0, ⟨#[]⟩⟩
/-- What bytes are. -/
def dcd (l : List UInt8) : Option Hp := if l.length = 24 ∧ ok (cand l) = true ∧ byt (cand l) = l then some (cand l) else none
theorem u8_of (n : Int) (h0 : 0 ≤ n) (h1 : n < 256) : ((UInt8.ofNat n.toNat).toNat : Int) = n := by
  rw [UInt8.toNat_ofNat']; omega
theorem cand_byt (h : Hp) (e : ok h = true) : cand (byt h) = h := by
  obtain ⟨k, n, u, d, id⟩ := h
  have g0 : (byt ⟨k, n, u, d, id⟩).getD 0 0 = UInt8.ofNat k.toNat := rfl
  have g1 : (byt ⟨k, n, u, d, id⟩).getD 1 0 = UInt8.ofNat (n + u).toNat := rfl
  have g2 : (byt ⟨k, n, u, d, id⟩).getD 2 0 = UInt8.ofNat (d / 256).toNat := rfl
  have g3 : (byt ⟨k, n, u, d, id⟩).getD 3 0 = UInt8.ofNat (d % 256).toNat := rfl
  have g4 : id.size = 16 → (⟨(((byt ⟨k, n, u, d, id⟩).drop 4).take 16).toArray⟩ : ByteArray) = id := fun hs => by
    have : (byt ⟨k, n, u, d, id⟩).drop 4 = id.data.toList ++ List.replicate (20 - id.size) 0 := rfl
    rw [this, List.take_append_of_le_length (by simp [hs]), List.take_of_length_le (by simp [hs])]
  unfold cand
  rw [g0, g1, g2, g3]
  rcases ok_cases _ e with ⟨h1, h2, h3, h4, h5, h6, h7⟩ | ⟨h1, h2, h3, h4, h5, h6, h7⟩ | ⟨h1, h2, h3, h4, h5⟩ | ⟨h1, h2, h3, h4, h5⟩
  · simp only at h1 h2 h3 h4 h5 h6 h7
    subst h1 h6 h7
    rw [if_pos (by decide)]
    rw [u8_of _ (by omega) (by omega), u8_of _ (by omega) (by omega), u8_of _ (by omega) (by omega)]
    congr 1
    · omega
    · omega
  · simp only at h1 h2 h3 h4 h5 h6 h7
    subst h1 h7
    rw [if_neg (by decide), if_pos (by decide), g4 h6]
    rw [u8_of _ (by omega) (by omega), u8_of _ (by omega) (by omega), u8_of _ (by omega) (by omega)]
    congr 1
    · omega
    · omega
  · simp only at h1 h2 h3 h4 h5
    subst h1 h3 h4 h5
    rw [if_neg (by decide), if_neg (by decide), if_pos (by decide), g4 h2]
  · simp only at h1 h2 h3 h4 h5
    subst h1 h2 h3 h4 h5
    rw [if_neg (by decide), if_neg (by decide), if_neg (by decide)]
    rfl
theorem dcd_byt (h : Hp) (e : ok h = true) : dcd (byt h) = some h := by
  unfold dcd
  rw [cand_byt h e, if_pos ⟨byt_len h e, e, rfl⟩]
theorem dcd_some (l : List UInt8) (x : Hp) (h : dcd l = some x) : ok x = true ∧ byt x = l ∧ x = cand l ∧ l.length = 24 := by
  unfold dcd at h
  split at h
  · rename_i g
    obtain rfl := Option.some.inj h
    exact ⟨g.2.1, g.2.2, rfl, g.1⟩
  · cases h
theorem byt_inj (a b : Hp) (ha : ok a = true) (hb : ok b = true) (h : byt a = byt b) : a = b := by
  rw [← cand_byt a ha, h, cand_byt b hb]
/-- Whether the commands' kinds are those of a path. -/
def shp (l : List Hp) : Bool := (List.range l.length).all fun i => decide ((l.getD i zh).k = 1) == decide (i + 1 < l.length)
def pth (l : List Hp) : Int := if l.all ok = true then (if l.length = 0 ∨ 5 < l.length then 4 else if shp l = true then 0 else 4) else 70
end Go.Proofs.Rt
