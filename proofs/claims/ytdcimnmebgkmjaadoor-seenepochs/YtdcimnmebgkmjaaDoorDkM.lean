/- Disks as pure states: sectors, writes that wait, a fuse; what each call answers and leaves. -/
import Derived.WalkKit
namespace Go.Proofs.Dk

abbrev Bs := List UInt8
structure Wt where
  k : Nat
  b : Bs
def upd (f : Nat → Bs) (k : Nat) (b : Bs) : Nat → Bs := fun j => if j = k then b else f j
theorem upd_same (f : Nat → Bs) (k : Nat) (b : Bs) : upd f k b k = b := if_pos rfl
theorem upd_other (f : Nat → Bs) {k j : Nat} (b : Bs) (h : j ≠ k) : upd f k b j = f j := if_neg h
theorem upd_self (f : Nat → Bs) (k : Nat) : upd f k (f k) = f := by
  funext j
  unfold upd
  split
  · rename_i e
    rw [e]
  · rfl
/-- All writes, in order. -/
def lay : (Nat → Bs) → List Wt → (Nat → Bs)
  | f, [] => f
  | f, x :: l => lay (upd f x.k x.b) l
theorem lay_app : ∀ (l : List Wt) (f : Nat → Bs) (x : Wt), lay f (l ++ [x]) = upd (lay f l) x.k x.b
  | [], _, _ => rfl
  | y :: l, f, x => by rw [List.cons_append, lay, lay_app l, lay]
/-- How many bytes a pick says. -/
def pk (x : Int) : Nat := ((x.tmod 65 + 65).tmod 65).toNat
theorem pk_lt (x : Int) : pk x < 65 := by
  have := Int.tmod_lt_of_pos (x.tmod 65 + 65) (show (0 : Int) < 65 by decide)
  unfold pk
  omega
theorem pk_eq (x : Int) : (x.tmod 65 + 65).tmod 65 = (pk x : Int) := by
  have h1 := Int.lt_tmod_of_pos x (show (0 : Int) < 65 by decide)
  have := Int.tmod_nonneg 65 (show 0 ≤ x.tmod 65 + 65 by omega)
  unfold pk
  omega
def pkAt (ps : List Int) (i : Nat) : Nat := if h : i < ps.length then pk ps[i] else 0
theorem pkAt_lt (ps : List Int) (i : Nat) : pkAt ps i < 65 := by
  unfold pkAt
  split
  · exact pk_lt _
  · decide
/-- A beginning of the new, the rest of the old. -/
def mix (p : Nat) (new old : Bs) : Bs := new.take p ++ old.drop p
theorem mix_len {p : Nat} {a b : Bs} (hp : p < 65) (ha : a.length = 64) (hb : b.length = 64) : (mix p a b).length = 64 := by
  unfold mix
  rw [List.length_append, List.length_take, List.length_drop]
  omega
theorem mix_zero (a b : Bs) : mix 0 a b = b := by simp [mix]
def tear (ps : List Int) : (Nat → Bs) → List Wt → Nat → (Nat → Bs)
  | f, [], _ => f
  | f, x :: l, i => tear ps (upd f x.k (mix (pkAt ps i) x.b (f x.k))) l (i + 1)
structure St where
  n : Nat
  f : Nat → Bs
  l : List Wt
  fuse : Nat
  down : Bool
def St.init (n : Nat) : St := ⟨n, fun _ => List.replicate 64 0, [], 0, false⟩
/-- What is read. -/
def St.sh (s : St) : Nat → Bs := lay s.f s.l
structure Ok (s : St) : Prop where
  n1 : 1 ≤ s.n
  n2 : s.n ≤ 1024
  f64 : ∀ k, (s.f k).length = 64
  wk : ∀ x ∈ s.l, x.k < s.n ∧ x.b.length = 64
  fu : s.fuse ≤ 1048576
theorem Ok.init {n : Nat} (h1 : 1 ≤ n) (h2 : n ≤ 1024) : Ok (St.init n) := ⟨h1, h2, fun _ => by simp [St.init], nofun, Nat.zero_le _⟩
theorem upd_64 {f : Nat → Bs} (hf : ∀ k, (f k).length = 64) (k : Nat) {b : Bs} (hb : b.length = 64) : ∀ j, (upd f k b j).length = 64 := fun j => by
  unfold upd
  split
  · exact hb
  · exact hf j
theorem lay_64 : ∀ (l : List Wt) (f : Nat → Bs), (∀ k, (f k).length = 64) → (∀ x ∈ l, x.b.length = 64) → ∀ k, (lay f l k).length = 64
  | [], _, hf, _ => hf
  | x :: l, _, hf, hl => lay_64 l _ (upd_64 hf _ (hl x (List.mem_cons_self ..))) (fun y hy => hl y (List.mem_cons_of_mem _ hy))
theorem tear_64 (ps : List Int) : ∀ (l : List Wt) (f : Nat → Bs) (i : Nat), (∀ k, (f k).length = 64) → (∀ x ∈ l, x.b.length = 64) → ∀ k, (tear ps f l i k).length = 64
  | [], _, _, hf, _ => hf
  | x :: l, _, i, hf, hl => tear_64 ps l _ _ (upd_64 hf _ (mix_len (pkAt_lt ps i) (hl x (List.mem_cons_self ..)) (hf _))) (fun y hy => hl y (List.mem_cons_of_mem _ hy))
theorem Ok.sh64 {s : St} (h : Ok s) : ∀ k, (s.sh k).length = 64 := lay_64 _ _ h.f64 (fun x hx => (h.wk x hx).2)
def brnS (s : St) : St := { s with fuse := s.fuse - 1, down := decide (s.fuse = 1) }
def rch (s : St) (k : Int) : Int := if s.down = true then 150 else if k < 0 ∨ (s.n : Int) ≤ k then 1 else 0
def rdV (s : St) (k : Int) : Bs := if rch s k = 0 then s.sh k.toNat else []
def wrE (s : St) (k : Int) (t : Bs) : Int := if rch s k ≠ 0 then rch s k else if t.length ≠ 64 then 3 else if s.fuse = 1 then 150 else 0
def wrS (s : St) (k : Int) (t : Bs) : St := if rch s k ≠ 0 then s else if t.length ≠ 64 then s else if s.fuse = 1 then brnS s else { brnS s with l := s.l ++ [⟨k.toNat, t⟩] }
def syE (s : St) : Int := if s.down = true then 150 else if s.fuse = 1 then 150 else 0
def syS (s : St) : St := if s.down = true then s else if s.fuse = 1 then brnS s else { brnS s with f := s.sh, l := [] }
def fuE (s : St) (n : Int) : Int := if s.down = true then 150 else if n < 0 ∨ 1048576 < n then 1 else 0
def fuS (s : St) (n : Int) : St := if s.down = true then s else if n < 0 ∨ 1048576 < n then s else { s with fuse := n.toNat }
def crS (s : St) (ps : List Int) : St := { s with f := tear ps s.f s.l 0, l := [], fuse := 0, down := false }
theorem Ok.brn {s : St} (h : Ok s) : Ok (brnS s) := ⟨h.n1, h.n2, h.f64, h.wk, by have := h.fu; show s.fuse - 1 ≤ _; omega⟩
theorem Ok.wr {s : St} (h : Ok s) (k : Int) (t : Bs) : Ok (wrS s k t) := by
  unfold wrS
  split
  · exact h
  · rename_i hr
    split
    · exact h
    · rename_i ht
      split
      · exact h.brn
      · refine ⟨h.n1, h.n2, h.f64, fun x hx => ?_, h.brn.fu⟩
        rcases List.mem_append.1 hx with hx | hx
        · exact h.wk x hx
        · rw [List.mem_singleton] at hx
          subst hx
          refine ⟨?_, by simpa using ht⟩
          unfold rch at hr
          split at hr
          · simp at hr
          · split at hr
            · simp at hr
            · show k.toNat < s.n
              omega
theorem Ok.sy {s : St} (h : Ok s) : Ok (syS s) := by
  unfold syS
  split
  · exact h
  · split
    · exact h.brn
    · exact ⟨h.n1, h.n2, h.sh64, nofun, h.brn.fu⟩
theorem Ok.fus {s : St} (h : Ok s) (n : Int) : Ok (fuS s n) := by
  unfold fuS
  split
  · exact h
  · split
    · exact h
    · exact ⟨h.n1, h.n2, h.f64, h.wk, by show n.toNat ≤ _; omega⟩
theorem Ok.cr {s : St} (h : Ok s) (ps : List Int) : Ok (crS s ps) := ⟨h.n1, h.n2, tear_64 ps _ _ _ h.f64 (fun x hx => (h.wk x hx).2), nofun, Nat.zero_le _⟩
/-- A sector that no write is of. -/
theorem lay_none : ∀ (l : List Wt) (f : Nat → Bs) (j : Nat), (∀ x ∈ l, x.k ≠ j) → lay f l j = f j
  | [], _, _, _ => rfl
  | x :: l, f, j, h => by rw [lay, lay_none l _ j (fun y hy => h y (List.mem_cons_of_mem _ hy)), upd_other _ _ (Ne.symm (h x (List.mem_cons_self ..)))]
theorem tear_none (ps : List Int) : ∀ (l : List Wt) (f : Nat → Bs) (i j : Nat), (∀ x ∈ l, x.k ≠ j) → tear ps f l i j = f j
  | [], _, _, _, _ => rfl
  | x :: l, f, i, j, h => by rw [tear, tear_none ps l _ _ j (fun y hy => h y (List.mem_cons_of_mem _ hy)), upd_other _ _ (Ne.symm (h x (List.mem_cons_self ..)))]
/-- Sectors shown anew, of some writes, out of what lies. -/
def shw (g : Nat → Bs) : (Nat → Bs) → List Wt → (Nat → Bs)
  | f, [] => f
  | f, x :: l => shw g (upd f x.k (g x.k)) l
theorem shw_all (g : Nat → Bs) : ∀ (l : List Wt) (f : Nat → Bs), (∀ j, (∀ x ∈ l, x.k ≠ j) → f j = g j) → shw g f l = g
  | [], f, h => funext fun j => h j nofun
  | x :: l, f, h => by
    rw [shw]
    refine shw_all g l _ (fun j hj => ?_)
    by_cases e : j = x.k
    · subst e
      rw [upd_same]
    · rw [upd_other _ _ e]
      exact h j (fun y hy => by
        rcases List.mem_cons.1 hy with rfl | hy
        · exact Ne.symm e
        · exact hj y hy)
theorem shown_all (s : St) (ps : List Int) : shw (tear ps s.f s.l 0) s.sh s.l = tear ps s.f s.l 0 :=
  shw_all _ _ _ (fun j hj => by rw [tear_none _ _ _ _ _ hj]; exact lay_none _ _ _ hj)
end Go.Proofs.Dk
