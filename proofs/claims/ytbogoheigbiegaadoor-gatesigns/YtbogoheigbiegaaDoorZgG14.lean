/- Parts: GtM, GtA, GtB, MlK. -/
import Derived.Test.YtbogoheigbiegaaDoorZgG02
import Derived.Test.YtbogoheigbiegaaDoorZgG13
import Derived.Test.YtbogoheigbiegaaDoorZgG01
import Derived.Shelf.Pu.Clone
namespace Go.Proofs.Gt
open Go.Proofs.Ml Go.Proofs.Hs
structure Ac where
  u : Int
  k : ByteArray
structure Si where
  u : Int
  k : ByteArray
  q : Int
def gate4 : List UInt8 := [103, 97, 116, 101]
def bare (m : Ml) : Ml := ⟨m.k, m.u, m.q, m.t, mk (zr 32), m.sl, m.ids⟩
def with' (m : Ml) (g : ByteArray) : Ml := ⟨m.k, m.u, m.q, m.t, g, m.sl, m.ids⟩
def tgT (key : ByteArray) (t : List UInt8) : ByteArray := ⟨(hmac key.data.toList (gate4 ++ t)).toArray⟩
def tgM (key : ByteArray) (m : Ml) : ByteArray := tgT key (txt (bare m))
def thereB : List Ac → Int → Bool
  | [], _ => false
  | a :: r, u => if u = a.u then true else thereB r u
def refE (a : Ac) (l : List Ac) : Int :=
  if a.u < 0 ∨ 64 ≤ a.u then 1 else if thereB l a.u = true then 6 else if a.k.size = 32 then 0 else 3
def bad (l : List Ac) (i : Nat) : Int := refE (l.getD i ⟨0, e0⟩) (l.take i)
def chkN (l : List Ac) : Nat → Nat → Int × Int
  | 0, _ => (0, 0)
  | n + 1, i => if bad l i = 0 then chkN l n (i + 1) else ((i : Int), bad l i)
def chk (l : List Ac) : Int × Int := if 64 < l.length then (-1, 2) else chkN l l.length 0
theorem chk_long {l : List Ac} (h : 64 < l.length) : chk l = (-1, 2) := if_pos h
theorem chk_short {l : List Ac} (h : ¬ 64 < l.length) : chk l = chkN l l.length 0 := if_neg h
theorem chkN_zero (l : List Ac) (i : Nat) : chkN l 0 i = (0, 0) := rfl
theorem chkN_ok {l : List Ac} {i : Nat} (n : Nat) (h : bad l i = 0) : chkN l (n + 1) i = chkN l n (i + 1) := if_pos h
theorem chkN_no {l : List Ac} {i : Nat} (n : Nat) (h : ¬ bad l i = 0) : chkN l (n + 1) i = ((i : Int), bad l i) := if_neg h
theorem bad_at {l : List Ac} {i : Nat} (hi : i < l.length) : bad l i = refE l[i] (l.take i) := by
  unfold bad
  rw [List.getD_eq_getElem?_getD, List.getElem?_eq_getElem hi]; rfl
theorem chkN_each : ∀ (n i : Nat) (l : List Ac), (chkN l n i).2 = 0 → ∀ j, i ≤ j → j < i + n → bad l j = 0 := by
  intro n
  induction n with
  | zero => intro i l _ j h1 h2; omega
  | succ n ih =>
    intro i l h j h1 h2
    by_cases q : bad l i = 0
    · rw [chkN_ok n q] at h
      by_cases e : j = i
      · rw [e]; exact q
      · exact ih (i + 1) l h j (by omega) (by omega)
    · rw [chkN_no n q] at h
      exact absurd h q
theorem chk_each {l : List Ac} (h : (chk l).2 = 0) : l.length ≤ 64 ∧ ∀ i, i < l.length → bad l i = 0 := by
  by_cases q : 64 < l.length
  · rw [chk_long q] at h; cases h
  · rw [chk_short q] at h
    exact ⟨by omega, fun i hi => chkN_each _ _ l h i (Nat.zero_le _) (by omega)⟩
theorem refE_key {a : Ac} {l : List Ac} (h : refE a l = 0) : 0 ≤ a.u ∧ a.u < 64 ∧ thereB l a.u = false ∧ a.k.size = 32 := by
  unfold refE at h
  by_cases h1 : a.u < 0 ∨ 64 ≤ a.u
  · rw [if_pos h1] at h; cases h
  · rw [if_neg h1] at h
    by_cases h2 : thereB l a.u = true
    · rw [if_pos h2] at h; cases h
    · rw [if_neg h2] at h
      by_cases h3 : a.k.size = 32
      · exact ⟨by omega, by omega, by simpa using h2, h3⟩
      · rw [if_neg h3] at h; cases h
theorem chk_key {l : List Ac} (h : (chk l).2 = 0) (i : Nat) (hi : i < l.length) : l[i].k.size = 32 := by
  have h1 := (chk_each h).2 i hi
  rw [bad_at hi] at h1
  exact (refE_key h1).2.2.2
def at' : List Si → Int → Nat
  | [], _ => 0
  | a :: r, u => if a.u = u then 0 else at' r u + 1
theorem at_le : ∀ (l : List Si) (u : Int), at' l u ≤ l.length := by
  intro l
  induction l with
  | nil => intro u; exact Nat.le_refl _
  | cons a r ih =>
    intro u
    unfold at'
    split
    · exact Nat.zero_le _
    · have := ih u; simp; omega
theorem at_hit : ∀ (l : List Si) (u : Int) (h : at' l u < l.length), (l[at' l u]).u = u := by
  intro l
  induction l with
  | nil => intro u h; cases h
  | cons a r ih =>
    intro u h
    by_cases q : a.u = u
    · have e : at' (a :: r) u = 0 := if_pos q
      simp only [e, List.getElem_cons_zero]; exact q
    · have e : at' (a :: r) u = at' r u + 1 := if_neg q
      simp only [e, List.getElem_cons_succ]
      exact ih u (by rw [e] at h; simpa using h)
theorem at_before : ∀ (l : List Si) (u : Int) (j : Nat) (hj : j < l.length), j < at' l u → ¬ l[j].u = u := by
  intro l
  induction l with
  | nil => intro u j hj; cases hj
  | cons a r ih =>
    intro u j hj h
    by_cases q : a.u = u
    · rw [show at' (a :: r) u = 0 from if_pos q] at h; omega
    · rw [show at' (a :: r) u = at' r u + 1 from if_neg q] at h
      cases j with
      | zero => exact q
      | succ j => exact ih u j (by simpa using hj) (by omega)
theorem at_is (l : List Si) (u : Int) (j : Nat) (hj : j < l.length) (h : l[j].u = u) (hb : ∀ i (hi : i < l.length), i < j → ¬ l[i].u = u) : at' l u = j := by
  have h1 : ¬ j < at' l u := fun q => at_before l u j hj q h
  have h2 : at' l u < l.length := by omega
  by_cases e : at' l u = j
  · exact e
  · exact absurd (at_hit l u h2) (hb _ h2 (by omega))
theorem at_none (l : List Si) (u : Int) (hb : ∀ i (hi : i < l.length), ¬ l[i].u = u) : at' l u = l.length := by
  have := at_le l u
  by_cases e : at' l u < l.length
  · exact absurd (at_hit l u e) (hb _ e)
  · omega
def sg (a : Ac) : Si := ⟨a.u, a.k, 0⟩
def sgE (key : ByteArray) (m : Ml) : Int := if key.size = 32 then (if okB (bare m) = true then 0 else 110) else 3
def sgV (key : ByteArray) (m : Ml) : Ml := if sgE key m = 0 then with' m (tgM key m) else zm
theorem sg_len {key : ByteArray} {m : Ml} (h : ¬ key.size = 32) : sgE key m = 3 ∧ sgV key m = zm := by
  have e : sgE key m = 3 := if_neg h
  refine ⟨e, ?_⟩
  unfold sgV; rw [e]; rfl
theorem sg_no {key : ByteArray} {m : Ml} (h : key.size = 32) (h2 : okB (bare m) = false) : sgE key m = 110 ∧ sgV key m = zm := by
  have e : sgE key m = 110 := by unfold sgE; rw [if_pos h, h2]; rfl
  refine ⟨e, ?_⟩
  unfold sgV; rw [e]; rfl
theorem sg_ok {key : ByteArray} {m : Ml} (h : key.size = 32) (h2 : okB (bare m) = true) : sgE key m = 0 ∧ sgV key m = with' m (tgM key m) := by
  have e : sgE key m = 0 := by unfold sgE; rw [if_pos h, h2]; rfl
  refine ⟨e, ?_⟩
  unfold sgV; rw [if_pos e]
theorem bare_kind {m : Ml} (h : okB (bare m) = true) : (m.k = 2 ∨ m.k = 4) ∧ 0 ≤ m.u ∧ m.u < 64 ∧ 1 ≤ m.q ∧ m.q ≤ 2147483647 ∧ m.t = e0 ∧ m.sl = [] ∧ m.ids.length ≤ 4 := by
  have z : (mk (zr 32)).size = 32 := rfl
  rcases ok_cases h with ⟨k, -, -, -, g, -, -⟩ | ⟨-, ⟨a, b, c, d⟩, t, ⟨k, -, s, i⟩ | ⟨-, g, -⟩ | ⟨k, -, s, i, -⟩⟩
  · exact absurd (congrArg ByteArray.size g) (by rw [show (bare m).g = mk (zr 32) from rfl, z]; decide)
  · refine ⟨.inl k, a, b, c, d, t, s, ?_⟩
    show (bare m).ids.length ≤ 4
    rw [i]; decide
  · exact absurd (congrArg ByteArray.size g) (by rw [show (bare m).g = mk (zr 32) from rfl, z]; decide)
  · exact ⟨.inr k, a, b, c, d, t, s, i⟩
theorem bare_of {m : Ml} (h : okB m = true) (hk : m.k = 2 ∨ m.k = 4) : okB (bare m) = true := by
  obtain ⟨k, u, q, t, g, sl, ids⟩ := m
  have z : (mk (zr 32)).size = 32 := rfl
  rcases ok_cases h with ⟨k1, -⟩ | ⟨-, ⟨a, b, c, d⟩, t0, ⟨k1, -, s, i⟩ | ⟨k1, -⟩ | ⟨k1, -, s, i, x⟩⟩
  · rcases hk with hk | hk <;> rw [k1] at hk <;> cases hk
  · simp only at k1 a b c d t0 s i
    subst k1 t0 s i
    show (numB _ && szB _ 0 32 0 0) = true
    unfold numB szB bare
    simp [z, a, b, c, d, size_e0]
  · rcases hk with hk | hk <;> rw [k1] at hk <;> cases hk
  · simp only at k1 a b c d t0 s i x
    subst k1 t0 s
    show (numB _ && szB _ 0 32 0 4 && idsB _) = true
    unfold numB szB bare
    simp [z, a, b, c, d, size_e0, i, x]
def mayB (m : Ml) : Bool := okB m && okB (bare m)
def adE (l : List Si) (m : Ml) : Int :=
  if mayB m = true then
    (if h : at' l m.u < l.length then
      (if m.g = tgM (l[at' l m.u]).k m then (if m.q ≤ (l[at' l m.u]).q then 170 else 0) else 200)
    else 200)
  else 110
def adS (l : List Si) (m : Ml) : List Si :=
  if adE l m = 0 then
    (if h : at' l m.u < l.length then l.set (at' l m.u) ⟨(l[at' l m.u]).u, (l[at' l m.u]).k, m.q⟩ else l)
  else l
theorem ad_no {l : List Si} {m : Ml} (h : mayB m = false) : adE l m = 110 ∧ adS l m = l := by
  have e : adE l m = 110 := by unfold adE; rw [h]; rfl
  exact ⟨e, by unfold adS; rw [e]; rfl⟩
theorem ad_none {l : List Si} {m : Ml} (h : mayB m = true) (h1 : ¬ at' l m.u < l.length) : adE l m = 200 ∧ adS l m = l := by
  have e : adE l m = 200 := by unfold adE; rw [if_pos h, dif_neg h1]
  exact ⟨e, by unfold adS; rw [e]; rfl⟩
theorem ad_other {l : List Si} {m : Ml} (h : mayB m = true) (h1 : at' l m.u < l.length) (h2 : ¬ m.g = tgM (l[at' l m.u]).k m) : adE l m = 200 ∧ adS l m = l := by
  have e : adE l m = 200 := by unfold adE; rw [if_pos h, dif_pos h1, if_neg h2]
  exact ⟨e, by unfold adS; rw [e]; rfl⟩
theorem ad_seen {l : List Si} {m : Ml} (h : mayB m = true) (h1 : at' l m.u < l.length) (h2 : m.g = tgM (l[at' l m.u]).k m) (h3 : m.q ≤ (l[at' l m.u]).q) : adE l m = 170 ∧ adS l m = l := by
  have e : adE l m = 170 := by unfold adE; rw [if_pos h, dif_pos h1, if_pos h2, if_pos h3]
  exact ⟨e, by unfold adS; rw [e]; rfl⟩
theorem ad_ok {l : List Si} {m : Ml} (h : mayB m = true) (h1 : at' l m.u < l.length) (h2 : m.g = tgM (l[at' l m.u]).k m) (h3 : ¬ m.q ≤ (l[at' l m.u]).q) : adE l m = 0 ∧ adS l m = l.set (at' l m.u) ⟨(l[at' l m.u]).u, (l[at' l m.u]).k, m.q⟩ := by
  have e : adE l m = 0 := by unfold adE; rw [if_pos h, dif_pos h1, if_pos h2, if_neg h3]
  exact ⟨e, by unfold adS; rw [if_pos e, dif_pos h1]⟩
end Go.Proofs.Gt
namespace Go.Proofs.YtbogoheigbiegaaDoor.Gat
open Go.RowKit Go.Proofs.Fd Go.Proofs.Gt
set_option maxRecDepth 20000
structure Bf (F : Nat → Prop) (w w' : World) : Prop where
  os : w'.os = w.os
  tape : w'.tape = w.tape
  output : w'.output = w.output
  size : w.heap.size ≤ w'.heap.size
  block : ∀ g, g < w.heap.size → ¬ F g → w'.heap[g]? = w.heap[g]?
theorem Bf.refl (F : Nat → Prop) (w : World) : Bf F w w := ⟨rfl, rfl, rfl, Nat.le_refl _, fun _ _ _ => rfl⟩
theorem Bf.of {F : Nat → Prop} {w w' : World} (h : Below w.heap.size w w') : Bf F w w' := ⟨h.os, h.tape, h.output, h.size, fun g hg _ => h.block g hg⟩
theorem Bf.below {F : Nat → Prop} {B : Nat} {w w' : World} (h : Bf F w w') (hF : ∀ g, F g → B ≤ g) (hB : B ≤ w.heap.size) : Below B w w' :=
  ⟨h.os, h.tape, h.output, h.size, fun g hg => h.block g (Nat.lt_of_lt_of_le hg hB) (fun c => absurd (hF g c) (Nat.not_le.2 hg))⟩
theorem Bf.trans {F : Nat → Prop} {a b c : World} (h : Bf F a b) (k : Bf F b c) : Bf F a c :=
  ⟨k.os.trans h.os, k.tape.trans h.tape, k.output.trans h.output, Nat.le_trans h.size k.size, fun g hg hF => (k.block g (Nat.lt_of_lt_of_le hg h.size) hF).trans (h.block g hg hF)⟩
theorem Bf.later {F : Nat → Prop} {a b c : World} (h : Bf F a b) (k : Below b.heap.size b c) : Bf F a c := h.trans (Bf.of k)
theorem Bf.drew {F : Nat → Prop} {a w : World} (h : Bf F a w) : Bf F a w.drew := ⟨h.os, h.tape, h.output, h.size, h.block⟩
theorem Bf.setCell {F : Nat → Prop} {a w : World} (h : Bf F a w) {p : Addr} (hp : F p.block) (u : Value) : Bf F a (w.setCell p u) :=
  ⟨h.os, h.tape, h.output, by simpa using h.size, fun k hk hF => (Below.heap_setCell w p u k (fun e => hF (e ▸ hp))).trans (h.block k hk hF)⟩
theorem Bf.cell {F : Nat → Prop} {w w' : World} (h : Bf F w w') {a : Addr} {v : Value} (hc : w.cell? a = some v) (hF : ¬ F a.block) : w'.cell? a = some v :=
  (World.cell?_of_block (h.block a.block (World.block_lt_of_cell? _ _ hc) hF)).trans hc
def AcAt (w : World) (a : Option Addr) (l : List Ac) : Prop := ∀ i (hi : i < l.length), ∃ b o, a = some ⟨b, o, none⟩ ∧ w.cell? ⟨b, o + i * 2, none⟩ = some (.int .i64 l[i].u) ∧ w.cell? ⟨b, o + i * 2 + 1, none⟩ = some (.string l[i].k)
theorem AcAt.later {w w' : World} {a : Option Addr} {l : List Ac} (h : AcAt w a l) (hb : Below w.heap.size w w') : AcAt w' a l := fun i hi => by
  obtain ⟨b, o, e, h0, h1⟩ := h i hi
  exact ⟨b, o, e, cell_later hb h0, cell_later hb h1⟩
theorem AcAt.apart {F : Nat → Prop} {w w' : World} {a : Option Addr} {l : List Ac} (h : AcAt w a l) (hb : Bf F w w') (hF : ∀ x, a = some x → ¬ F x.block) : AcAt w' a l := fun i hi => by
  obtain ⟨b, o, e, h0, h1⟩ := h i hi
  exact ⟨b, o, e, hb.cell h0 (hF ⟨b, o, none⟩ e), hb.cell h1 (hF ⟨b, o, none⟩ e)⟩
theorem AcAt.nil (w : World) (a : Option Addr) : AcAt w a [] := fun _ hi => absurd hi (Nat.not_lt_zero _)
theorem AcAt.take {w : World} {a : Option Addr} {l : List Ac} (h : AcAt w a l) (k : Nat) : AcAt w a (l.take k) := fun i hi => by
  have hi' : i < l.length := Nat.lt_of_lt_of_le hi (by rw [List.length_take]; exact Nat.min_le_right _ _)
  obtain ⟨b, o, e, h0, h1⟩ := h i hi'
  rw [List.getElem_take]
  exact ⟨b, o, e, h0, h1⟩
abbrev av (u : Int) (key : ByteArray) : Value := .agg #[.int .i64 u, .string key]
theorem there_drop (l : List Ac) (k : Nat) (u : Int) (h : k < l.length) : thereB (l.drop k) u = if u = l[k].u then true else thereB (l.drop (k + 1)) u := by
  rw [List.drop_eq_getElem_cons h]; rfl
theorem ret_i {V b : Int} (h : V = b) : Ending.returned (.int .i64 b) = Ending.returned (.int .i64 V) := by rw [h]
set_option maxHeartbeats 1000000 in
theorem refused_any (u : Int) (key : ByteArray) (a : Option Addr) (n c : Nat) (l : List Ac) (hn : Hid (l.length = n)) (hm : n ≤ 9223372036854775807) (w : World) (hc : Hid (AcAt w a l)) :
    Calls Tryd.prog 26 #[av u key, .slice a n c] w fun e w' => e = .returned (.int .i64 (refE ⟨u, key⟩ l)) ∧ Below w.heap.size w w' := by
  unfold av
  obtain ⟨E, hE⟩ : ∃ E, refE ⟨u, key⟩ l = E := ⟨_, rfl⟩
  have HE : Hid (refE ⟨u, key⟩ l = E) := hE
  rw [hE]
  clear hE
  by_cases h1 : u < 0
  · have E1 : Hid (E = 1) := by
      show _ = _
      rw [← HE.out]; exact if_pos (.inl h1)
    clear HE
    go_enter Tryd.func26, Tryd.ntmps26
    go_wp2
    go_ret
    exact ⟨ret_i E1.out, (Below.refl _ _).alloc (Nat.le_refl _) _⟩
  by_cases h2 : 64 ≤ u
  · have E1 : Hid (E = 1) := by
      show _ = _
      rw [← HE.out]; exact if_pos (.inr h2)
    clear HE
    go_enter Tryd.func26, Tryd.ntmps26
    go_wp2
    go_ret
    exact ⟨ret_i E1.out, (Below.refl _ _).alloc (Nat.le_refl _) _⟩
  obtain ⟨V, hV⟩ : ∃ V, thereB l u = V := ⟨_, rfl⟩
  have HV : Hid (thereB (l.drop 0) u = V ∧ (if V = true then 6 else if key.size = 32 then 0 else 3) = E) := by
    refine ⟨by rw [List.drop_zero]; exact hV, ?_⟩
    rw [← hV, ← HE.out]
    unfold refE
    rw [if_neg (show ¬ (u < 0 ∨ 64 ≤ u) by omega)]
  clear hV HE
  go_enter Tryd.func26, Tryd.ntmps26
  go_wp2
  go_loopw [17] (fun i wr => ∃ k : Nat, k ≤ n ∧ i = .int .i64 (k : Int) ∧ Hid (thereB (l.drop k) u = V ∧ Below w.heap.size w wr ∧ wr.cell? ⟨w.heap.size, 0, none⟩ = some (.int .i64 u) ∧ wr.cell? ⟨w.heap.size, 1, none⟩ = some (.string key))) (fun i _ => n - (intOf i).toNat)
  case atStart => exact ⟨0, Nat.zero_le _, rfl, HV.out.1, (Below.refl _ _).alloc (Nat.le_refl _) _, by simp [go_sem], by simp [go_sem]⟩
  case round =>
    obtain ⟨k, hk, rfl, I⟩ := hrel
    have I1 := I.out.2.2.1
    have I2 := I.out.2.2.2
    by_cases hlt : k < n
    · have hk' : k < l.length := by rw [hn.out]; exact hlt
      have g1 : (k : Int) < (n : Int) := by omega
      obtain ⟨b, o, rfl, c0, c1⟩ := hc.out.later I.out.2.1 k hk'
      have J : Hid (_ = _) := (there_drop l k u hk').symm.trans I.out.1
      have B0 : Hid (Below w.heap.size w wr) := I.out.2.1
      have z : w.heap.size < wr.heap.size := World.block_lt_of_cell? _ _ I1
      generalize l[k] = s at c0 c1 J
      obtain ⟨us, ks⟩ := s
      simp only at c0 c1
      have J' : Hid ((if u = us then true else thereB (l.drop (k + 1)) u) = V) := J
      clear J I
      by_cases hu : u = us
      · subst hu
        have E1 : Hid (E = 6) := by
          show _ = _
          have q := J'.out
          rw [if_pos rfl] at q
          rw [← HV.out.2, ← q]; rfl
        have B1 : Hid (∀ o v v' p q, w.heap.size ≤ p → w.heap.size ≤ q → Below w.heap.size w (((wr.alloc o).setCell ⟨p, 0, none⟩ v).setCell ⟨q, 1, none⟩ v')) := fun o v v' p q hp hq => ((B0.out.alloc B0.out.size o).setCell hp _).setCell hq _
        have B2 : Hid (∀ o, Below w.heap.size w (wr.alloc o)) := fun o => B0.out.alloc B0.out.size o
        clear J' HV B0
        go_wp2
        go_ret
        exact ⟨ret_i E1.out, by first | exact B2.out _ | exact B1.out _ _ _ _ _ (by simp; omega) (by simp; omega)⟩
      · have J2 : Hid (thereB (l.drop (k + 1)) u = V) := by
          have q := J'.out
          rw [if_neg hu] at q
          exact q
        have B2 : Hid (∀ o, Below w.heap.size w (wr.alloc o)) := fun o => B0.out.alloc B0.out.size o
        clear J' B0
        go_wp2
        go_roundw
        case rel => exact ⟨k + 1, by omega, by go_num, J2.out, B2.out _, cell_alloc I1, cell_alloc I2⟩
        case measure => simp [intOf]; omega
    · obtain rfl : k = n := by omega
      have E1 : Hid (V = false) := by
        show _ = _
        rw [← I.out.1, List.drop_of_length_le (by rw [hn.out]; exact Nat.le_refl _)]; rfl
      have B0 : Hid (Below w.heap.size w wr) := I.out.2.1
      have E2 : Hid ((if key.size = 32 then 0 else 3) = E) := by
        have q := HV.out.2
        rw [E1.out] at q
        exact q
      clear HV I E1
      by_cases hz : key.size = 32
      · have E3 : Hid (E = 0) := by
          have q := E2.out
          rw [if_pos hz] at q
          exact q.symm
        have g2 : (key.size : Int) = 32 := by omega
        clear E2
        go_wp2
        go_ret
        exact ⟨ret_i E3.out, B0.out⟩
      · have E3 : Hid (E = 3) := by
          have q := E2.out
          rw [if_neg hz] at q
          exact q.symm
        have g2 : ¬ (key.size : Int) = 32 := by omega
        clear E2
        go_wp2
        go_ret
        exact ⟨ret_i E3.out, B0.out⟩
end Go.Proofs.YtbogoheigbiegaaDoor.Gat
namespace Go.Proofs.YtbogoheigbiegaaDoor.Gat
open Go.RowKit Go.Proofs.Fd Go.Proofs.Gt
set_option maxRecDepth 20000
theorem ret_2 {A B a b : Int} (h : a = A) (k : b = B) : Ending.returned (.tuple #[.int .i64 A, .int .i64 B]) = Ending.returned (.tuple #[.int .i64 a, .int .i64 b]) := by rw [h, k]
theorem pair_eq {p : Int × Int} {a b : Int} (h : p = (a, b)) : p.1 = a ∧ p.2 = b := by rw [h]; exact ⟨rfl, rfl⟩
set_option maxHeartbeats 2000000 in
theorem check_any (a : Option Addr) (n c : Nat) (l : List Ac) (hn : Hid (l.length = n)) (hm : n ≤ 9223372036854775807) (hcap : Hid (n ≤ c)) (w : World) (hc : Hid (AcAt w a l)) :
    Calls Tryd.prog 8 #[.slice a n c] w fun e w' => e = .returned (.tuple #[.int .i64 (chk l).1, .int .i64 (chk l).2]) ∧ Below w.heap.size w w' := by
  obtain ⟨X, hX⟩ : ∃ X, (chk l).1 = X := ⟨_, rfl⟩
  obtain ⟨Y, hY⟩ : ∃ Y, (chk l).2 = Y := ⟨_, rfl⟩
  have HE : Hid (chk l = (X, Y)) := by rw [← hX, ← hY]; exact rfl
  rw [hX, hY]
  clear hX hY
  by_cases h1 : 64 < n
  · have E1 : Hid (X = -1 ∧ Y = 2) := by
      have q := HE.out
      rw [chk_long (by rw [hn.out]; exact h1)] at q
      have := pair_eq q.symm
      exact ⟨this.1, this.2⟩
    have g1 : (64 : Int) < (n : Int) := by omega
    clear HE h1
    go_enter Tryd.func8, Tryd.ntmps8
    go_wp2
    go_ret2
    exact ⟨ret_2 E1.out.1 E1.out.2, Below.refl _ _⟩
  have HV : Hid (chkN l (n - 0) 0 = (X, Y)) := by
    show _ = _
    rw [← HE.out, chk_short (by rw [hn.out]; exact h1), hn.out]; rfl
  have h64 : n ≤ 64 := by omega
  have g0 : ¬ (64 : Int) < (n : Int) := by omega
  clear HE h1
  go_enter Tryd.func8, Tryd.ntmps8
  go_wp2
  go_loopw [12] (fun i wr => ∃ k : Nat, k ≤ n ∧ i = .int .i64 (k : Int) ∧ Hid (chkN l (n - k) k = (X, Y) ∧ Below w.heap.size w wr)) (fun i _ => n - (intOf i).toNat)
  case atStart => exact ⟨0, Nat.zero_le _, rfl, HV.out, Below.refl _ _⟩
  case round =>
    obtain ⟨k, hk, rfl, I⟩ := hrel
    clear HV
    by_cases hlt : k < n
    · have hk' : k < l.length := by rw [hn.out]; exact hlt
      have g1 : (k : Int) < (n : Int) := by omega
      have HC : Hid (AcAt wr a l) := hc.out.later I.out.2
      obtain ⟨b, o, rfl, c0, c1⟩ := HC.out k hk'
      have B0 : Hid (Below w.heap.size w wr) := I.out.2
      have gc : (k : Int) ≤ (c : Int) := by have := hcap.out; omega
      have RF : Hid (∀ w2, Below wr.heap.size wr w2 → Calls Tryd.prog 26 #[av l[k].u l[k].k, .slice (some ⟨b, o, none⟩) k c] w2 fun e w' => e = .returned (.int .i64 (bad l k)) ∧ Below w2.heap.size w2 w') := fun w2 h2 => by
        have q := refused_any l[k].u l[k].k (some ⟨b, o, none⟩) k c (l.take k) (by show _ = _; rw [List.length_take]; omega) (by omega) w2 ((HC.out.later h2).take k)
        rw [bad_at hk']; exact q
      have J : Hid (if bad l k = 0 then chkN l (n - (k + 1)) (k + 1) = (X, Y) else ((k : Int), bad l k) = (X, Y)) := by
        have q := I.out.1
        rw [show n - k = (n - (k + 1)) + 1 by omega] at q
        by_cases z : bad l k = 0
        · show (if _ then _ else _)
          rw [if_pos z, ← chkN_ok _ z]; exact q
        · show (if _ then _ else _)
          rw [if_neg z, ← chkN_no _ z]; exact q
      unfold av at RF
      generalize bad l k = bk at RF J
      generalize l[k] = s at c0 c1 RF
      obtain ⟨us, ks⟩ := s
      simp only at c0 c1 RF
      clear I HC hc
      go_wp2_with fail
      obtain ⟨W, hW⟩ : ∃ W, wr.alloc (.cells #[.int .i64 us, .string ks] 34) = W := ⟨_, rfl⟩
      have S0 : W.cell? ⟨wr.heap.size, 0, none⟩ = some (.int .i64 us) ∧ W.cell? ⟨wr.heap.size, 1, none⟩ = some (.string ks) := by rw [← hW]; exact ⟨by simp [go_sem], by simp [go_sem]⟩
      have BW : Hid (Below wr.heap.size wr W) := by rw [← hW]; exact (Below.refl _ _).alloc (Nat.le_refl _) _
      rw [hW]
      clear hW
      go_region_held3 (fun w' => w'.cell? ⟨wr.heap.size, 0, none⟩ = some (.int .i64 us) ∧ w'.cell? ⟨wr.heap.size, 1, none⟩ = some (.string ks)) (first | exact S0 | assumption) (first | (go_at_call 26; refine Calls.mono (RF.out _ (by first | exact BW.out.drew | exact BW.out)) ?_; rintro e w1 ⟨rfl, hb⟩; have S1 : w1.cell? ⟨wr.heap.size, 0, none⟩ = some (.int .i64 us) ∧ w1.cell? ⟨wr.heap.size, 1, none⟩ = some (.string ks) := ⟨cell_later hb S0.1, cell_later hb S0.2⟩; have B1 : Hid (Below w.heap.size w w1) := chain (chain B0.out BW.out).drew hb))
      clear S1 S0 BW
      clear hb RF B0
      by_cases z : bk = 0
      · subst z
        have J2 : Hid (chkN l (n - (k + 1)) (k + 1) = (X, Y)) := by
          have q := J.out
          rw [if_pos rfl] at q; exact q
        clear J
        go_wp2
        go_roundw
        case rel => exact ⟨k + 1, by omega, by go_num, J2.out, B1.out⟩
        case measure => simp [intOf]; omega
      · have J2 : Hid (X = (k : Int) ∧ Y = bk) := by
          have q := J.out
          rw [if_neg z] at q
          exact ⟨(pair_eq q.symm).1, (pair_eq q.symm).2⟩
        clear J
        go_wp2
        go_ret2
        exact ⟨ret_2 J2.out.1 J2.out.2, B1.out⟩
    · obtain rfl : k = n := by omega
      have E1 : Hid (X = 0 ∧ Y = 0) := by
        have q := I.out.1
        rw [Nat.sub_self, chkN_zero] at q
        exact ⟨(pair_eq q.symm).1, (pair_eq q.symm).2⟩
      have B0 : Hid (Below w.heap.size w wr) := I.out.2
      clear I
      go_wp2
      go_ret2
      exact ⟨ret_2 E1.out.1 E1.out.2, B0.out⟩
end Go.Proofs.YtbogoheigbiegaaDoor.Gat
namespace Go.Proofs.YtbogoheigbiegaaDoor
open Go.RowKit Go.Proofs.Fd
set_option maxRecDepth 20000
def scloneAt : Go.Shelf.Ren := ⟨fun _ => 57, fun t => if t = 3 then 3 else if t = 4 then 4 else if t = 5 then 5 else if t = 9 then 9 else if t = 37 then 60 else if t = 47 then 112 else 0, fun n => n⟩
theorem scloneLies : LaysPu.n25 Tryd.prog scloneAt :=
  { mixed := by kernel_rfl, f25 := by kernel_rfl, t0 := by kernel_rfl, a0 := fun _ => by kernel_rfl, z0 := fun _ => by kernel_rfl, v0 := fun _ => by kernel_rfl, i0 := by kernel_rfl, t3 := by kernel_rfl, a3 := fun _ => by kernel_rfl, z3 := fun _ => by kernel_rfl, v3 := fun _ => by kernel_rfl, i3 := by kernel_rfl, t4 := by kernel_rfl, a4 := fun _ => by kernel_rfl, z4 := fun _ => by kernel_rfl, v4 := fun _ => by kernel_rfl, i4 := by kernel_rfl, t5 := by kernel_rfl, a5 := fun _ => by kernel_rfl, z5 := fun _ => by kernel_rfl, v5 := fun _ => by kernel_rfl, i5 := by kernel_rfl, t9 := by kernel_rfl, a9 := fun _ => by kernel_rfl, z9 := fun _ => by kernel_rfl, v9 := fun _ => by kernel_rfl, i9 := by kernel_rfl, t37 := by kernel_rfl, a37 := fun _ => by kernel_rfl, z37 := fun _ => by kernel_rfl, v37 := fun _ => by kernel_rfl, i37 := by kernel_rfl, t47 := by kernel_rfl, a47 := fun _ => by kernel_rfl, z47 := fun _ => by kernel_rfl, v47 := fun _ => by kernel_rfl, i47 := by kernel_rfl }
theorem sclone_in (s : ByteArray) (hs : s.size ≤ 281474976710656) (w : World) :
    Calls Tryd.prog 57 #[.string s] w fun e w' => e = .returned (.string s) ∧ Below w.heap.size w w' := AnyPu.stringslite_Clone scloneLies s w hs
theorem sclone_any (s : ByteArray) (hs : s.size ≤ 281474976710656) (w : World) :
    Calls Tryd.prog 46 #[.string s] w fun e w' => e = .returned (.string s) ∧ Below w.heap.size w w' := by
  go_enter Tryd.func46, Tryd.ntmps46
  go_wp2_with fail
  refine Calls.mono (sclone_in s hs _) ?_
  rintro e w1 ⟨rfl, hb⟩
  have B1 : Hid (Below w.heap.size w w1) := hb
  clear hb
  go_wp2
  go_ret
  exact ⟨rfl, B1.out⟩
end Go.Proofs.YtbogoheigbiegaaDoor
