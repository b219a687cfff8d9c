/- Parts: LzB, BxM, BxN. -/
import Derived.Test.YtjpaodepnacimaaGreatDoorZbG22
import Derived.Test.YtjpaodepnacimaaGreatDoorZbG12
namespace Go.Proofs.YtjpaodepnacimaaGreatDoor
open Go.RowKit Go.Proofs.Fd Go.Proofs.Dk Go.Proofs.Lg
set_option maxRecDepth 20000
structure Clo (P : Bs → Prop) : Prop where
  zr : P (zr 64)
  mix : ∀ {p : Nat} {a b : Bs}, P a → P b → a.length = 64 → P (mix p a b)
theorem getD_mix {p i : Nat} {a b : Bs} (la : a.length = 64) (hi : i < 64) : (mix p a b).getD i 0 = if i < p then a.getD i 0 else b.getD i 0 := by
  unfold mix
  by_cases hp : i < p
  · rw [if_pos hp, List.getD_eq_getElem?_getD, List.getD_eq_getElem?_getD, List.getElem?_append_left (by rw [List.length_take]; omega), List.getElem?_take_of_lt hp]
  · rw [if_neg hp, List.getD_eq_getElem?_getD, List.getD_eq_getElem?_getD, List.getElem?_append_right (by rw [List.length_take]; omega), List.length_take, List.getElem?_drop, show p + (i - min p a.length) = i by omega]
def Hd4 (b : Bs) : Prop := (b.getD 4 0).toNat < 128
theorem hd4_hd {g : Nat} (h : g ≤ 2147483647) : Hd4 (hd g) := by
  have e : hd g = [76, 79, 71, 0] ++ (ben g 4 ++ (hm g ++ zr ((64 - (hf g ++ hm g).length % 64) % 64))) := by simp [hd, pdd, hf]
  unfold Hd4
  rw [e, rben4]
  show (UInt8.ofNat (g / 16777216)).toNat < 128
  rw [UInt8.toNat_ofNat']
  omega
theorem cl4 : Clo Hd4 := by
  refine ⟨by unfold Hd4 Lg.zr; decide, fun {p a b} ha hb la => ?_⟩
  unfold Hd4 at *
  rw [getD_mix la (by decide)]
  split
  · exact ha
  · exact hb
def Hd7 (N : Nat) (b : Bs) : Prop := b.getD 4 0 = 0 ∧ b.getD 5 0 = 0 ∧ b.getD 6 0 = 0 ∧ (b.getD 7 0).toNat ≤ N
theorem Hd7.mono {N M : Nat} (h : N ≤ M) {b : Bs} (k : Hd7 N b) : Hd7 M b := ⟨k.1, k.2.1, k.2.2.1, Nat.le_trans k.2.2.2 h⟩
def Bg (n k : Nat) : Prop := k = 0 ∨ k = n / 2
structure Hp (P : Bs → Prop) (s : St) : Prop where
  f : ∀ k, Bg s.n k → P (s.f k)
  l : ∀ x ∈ s.l, Bg s.n x.k → P x.b
theorem Hp.imp {P Q : Bs → Prop} {s : St} (h : Hp P s) (k : ∀ b, P b → Q b) : Hp Q s := ⟨fun i hi => k _ (h.f i hi), fun x hx hb => k _ (h.l x hx hb)⟩
abbrev Hh (s : St) : Prop := Hp Hd4 s
section
variable {P : Bs → Prop}
theorem lay_hp : ∀ (l : List Wt) (f : Nat → Bs) (k : Nat), P (f k) → (∀ x ∈ l, x.k = k → P x.b) → P (lay f l k)
  | [], _, _, h, _ => h
  | x :: l, f, k, h, hl => by
    refine lay_hp l _ k ?_ (fun y hy => hl y (List.mem_cons_of_mem _ hy))
    unfold upd
    split
    · rename_i e
      exact hl x (List.mem_cons_self ..) e.symm
    · exact h
theorem Hp.sh {s : St} (h : Hp P s) {k : Nat} (hk : Bg s.n k) : P (s.sh k) := lay_hp _ _ k (h.f k hk) (fun x hx e => h.l x hx (by rw [e]; exact hk))
theorem Hp.fuse {s : St} (h : Hp P s) (n : Int) : Hp P (fuS s n) := by
  unfold fuS
  split
  · exact h
  · split
    · exact h
    · exact ⟨h.f, h.l⟩
theorem Hp.sync {s : St} (h : Hp P s) : Hp P (syS s) := by
  unfold syS
  split
  · exact h
  · split
    · exact ⟨h.f, h.l⟩
    · exact ⟨fun k hk => h.sh hk, nofun⟩
theorem Hp.write {s : St} (h : Hp P s) (k : Nat) (b : Bs) (hb : Bg s.n k → P b) : Hp P (wrS s (k : Int) b) := by
  unfold wrS
  split
  · exact h
  · split
    · exact h
    · split
      · exact ⟨h.f, h.l⟩
      · refine ⟨h.f, fun x hx hx2 => ?_⟩
        rcases List.mem_append.1 hx with hx | hx
        · exact h.l x hx hx2
        · rw [List.mem_singleton] at hx
          subst hx
          rw [Int.toNat_natCast] at hx2
          exact hb hx2
theorem Hp.thn {z : Int × St} {f : St → Int × St} (h : Hp P z.2) (hf : ∀ s, Hp P s → s.n = z.2.n → Hp P (f s).2) : Hp P (thn z f).2 := by
  by_cases h0 : z.1 = 0
  · rw [thn_ok h0]; exact hf _ h rfl
  · rw [thn_no h0]; exact h
theorem Hp.wrs : ∀ (bs : List Bs) (s : St) (k : Nat), Hp P s → (∀ j, j < bs.length → ¬ Bg s.n (k + j)) → Hp P (wrs s k bs).2
  | [], _, _, h, _ => h
  | b :: bs, s, k, h, hk => by
    rw [Lg.wrs]
    refine Hp.thn (z := (wrE s (k : Int) b, wrS s (k : Int) b)) (h.write k b (fun c => absurd c (hk 0 (by simp)))) (fun s' h' hn => ?_)
    have hn' : s'.n = s.n := hn.trans (wrS_n s _ b)
    exact Hp.wrs bs s' (k + 1) h' (fun j hj => by rw [hn', show k + 1 + j = k + (j + 1) by omega]; exact hk (j + 1) (by simpa using hj))
theorem Hp.wrb {s : St} (h : Hp P s) (k : Nat) (b : Bs) (hk : ∀ j, j < b.length / 64 → ¬ Bg s.n (k + j)) : Hp P (wrb s k b).2 := Hp.wrs _ s k h (fun j hj => hk j (by rw [chs_len] at hj; exact hj))
theorem Hp.cls (cl : Clo P) : ∀ (m : Nat) (s : St) (k : Nat) (d : Bool), Hp P s → Hp P (cls s k m d).2
  | 0, s, k, d, h => by
    rw [Lg.cls]
    split
    · exact h.sync
    · exact h
  | m + 1, s, k, d, h => by
    rw [Lg.cls]
    split
    · exact Hp.cls cl m s _ d h
    · exact Hp.thn (z := (wrE s (k : Int) (Lg.zr 64), wrS s (k : Int) (Lg.zr 64))) (h.write k _ (fun _ => cl.zr)) (fun s' h' _ => Hp.cls cl m s' _ true h')
theorem Hp.cln (cl : Clo P) {s : St} (h : Hp P s) (k m : Nat) : Hp P (cln s k m).2 := by
  unfold Lg.cln
  split
  · exact h
  · exact Hp.cls cl m s k false h
theorem half_in {n h tk m j : Nat} (hh : h ≤ 1) (h1 : 1 ≤ tk) (h2 : tk + m ≤ n / 2) (hj : j < m) : ¬ Bg n (h * (n / 2) + tk + j) := by
  unfold Bg
  rcases (by omega : h = 0 ∨ h = 1) with rfl | rfl
  · rw [Nat.zero_mul]; omega
  · rw [Nat.one_mul]; omega
theorem Hp.pts {h : Nat} (hh : h ≤ 1) : ∀ (l : List Bs) (s : St) (tk : Nat) (a : Bs), Hp P s → 1 ≤ tk → tk + sns l ≤ s.n / 2 → Hp P (pts s (h * (s.n / 2)) tk a l).2
  | [], _, _, _, k, _, _ => k
  | t :: l, s, tk, a, k, h1, h2 => by
    have h2' : tk + (sn t + sns l) ≤ s.n / 2 := h2
    rw [Lg.pts]
    refine Hp.thn (k.wrb _ _ (fun j hj => half_in hh h1 (show tk + sn t ≤ s.n / 2 by omega) (by rw [rcd_len] at hj; omega))) (fun s' k' hn => ?_)
    have hn' : s'.n = s.n := hn.trans (wrb_n s _ _)
    have := Hp.pts hh l s' (tk + sn t) (rmk a t) k' (by omega) (by rw [hn']; omega)
    rw [hn'] at this
    exact this
theorem Hp.bgn (cl : Clo P) {s : St} (k : Hp P s) {h g : Nat} (hh : h ≤ 1) (hg : P (hd g)) (ts : List Bs) (hs : 1 + sns ts ≤ s.n / 2) : Hp P (bgn s (h * (s.n / 2)) (s.n / 2) g ts).2 := by
  unfold Lg.bgn
  refine Hp.thn (k.cln cl _ _) (fun s1 k1 n1 => ?_)
  have n1' : s1.n = s.n := n1.trans (cln_n _ _ _)
  have p1 := Hp.pts hh ts s1 1 (hm g) k1 (Nat.le_refl _) (by rw [n1']; exact hs)
  rw [n1'] at p1
  refine Hp.thn p1 (fun s2 k2 n2 => ?_)
  refine Hp.thn (z := (syE s2, syS s2)) k2.sync (fun s3 k3 n3 => ?_)
  have e1 := wrb_one s3 (h * (s.n / 2)) (hd g) (hd_len g)
  rw [e1]
  refine Hp.thn (z := (wrE s3 ((h * (s.n / 2) : Nat) : Int) (hd g), wrS s3 ((h * (s.n / 2) : Nat) : Int) (hd g))) (k3.write _ _ (fun _ => hg)) (fun s4 k4 _ => k4.sync)
theorem Hp.app {s : St} (k : Hp P s) {x : Lo} (hh : x.h ≤ 1) (t : Bs) : Hp P (app s x t).1.2 := by
  unfold Lg.app
  split
  · exact k
  · split
    · exact k
    · rename_i h2
      have h1 : 1 ≤ x.tk := tkn_ge x.ts 1
      exact k.wrb _ _ (fun j hj => half_in hh h1 (show x.tk + sn t ≤ s.n / 2 by omega) (by rw [rcd_len] at hj; omega))
theorem Hp.cmp (cl : Clo P) {s : St} (k : Hp P s) {x : Lo} (hg : x.g < 2147483647 → P (hd (x.g + 1))) (hh : x.h ≤ 1) (hn : 4 ≤ s.n) (ts : List Bs) : Hp P (cmp s x ts).1.2 := by
  unfold Lg.cmp
  split
  · exact k
  · split
    · exact k
    · rename_i h2
      split
      · exact k
      · rename_i h3
        exact k.bgn cl (by omega) (hg (by omega)) ts (by omega)
end
theorem Hp.opn {P : Bs → Prop} (cl : Clo P) (hg : P (hd 1)) {s : St} (h : Hp P s) : Hp P (opn s).1.2 := by
  unfold Lg.opn
  by_cases h1 : s.n / 2 < 2
  · rw [if_pos h1]; exact h
  · rw [if_neg h1]
    by_cases h2 : s.down = true
    · rw [if_pos h2]; exact h
    · rw [if_neg h2]
      by_cases h3 : (use s).2 = 0
      · rw [if_pos h3]
        have := h.bgn cl (h := 0) (g := 1) (by decide) hg [] (by show 1 + 0 ≤ _; omega)
        rw [Nat.zero_mul] at this
        exact this
      · rw [if_neg h3]
        exact h.cln cl _ _
theorem cmp_h {s : St} {x : Lo} (hh : x.h ≤ 1) (ts : List Bs) : (cmp s x ts).2.h ≤ 1 := by
  unfold cmp
  by_cases h1 : mays ts ≠ 0
  · rw [if_pos h1]; exact hh
  · rw [if_neg h1]
    by_cases h2 : s.n / 2 - 1 < sns ts
    · rw [if_pos h2]; exact hh
    · rw [if_neg h2]
      by_cases h3 : 2147483647 ≤ x.g
      · rw [if_pos h3]; exact hh
      · rw [if_neg h3]
        show (if (bgn s ((1 - x.h) * (s.n / 2)) (s.n / 2) (x.g + 1) ts).1 = 0 then (⟨1 - x.h, x.g + 1, ts⟩ : Lo) else x).h ≤ 1
        by_cases h4 : (bgn s ((1 - x.h) * (s.n / 2)) (s.n / 2) (x.g + 1) ts).1 = 0
        · rw [if_pos h4]; show 1 - x.h ≤ 1; omega
        · rw [if_neg h4]; exact hh
structure Kp (s s' : St) (m : Nat) : Prop where
  n : s'.n = s.n
  h : Hh s → Hh s'
  l : s'.l.length ≤ s.l.length + m
theorem Kp.refl (s : St) (m : Nat) : Kp s s m := ⟨rfl, id, Nat.le_add_right _ _⟩
theorem kp_app {s : St} {x : Lo} (hh : x.h ≤ 1) (t : Bs) : Kp s (app s x t).1.2 40 := ⟨(app_len s x t).2, fun k => k.app hh t, (app_len s x t).1⟩
theorem kp_cmp {s : St} {x : Lo} (hh : x.h ≤ 1) (hn : 4 ≤ s.n) (ts : List Bs) : Kp s (cmp s x ts).1.2 (s.n + 1) := ⟨(cmp_len s x ts).2, fun k => k.cmp cl4 (fun c => hd4_hd (by omega)) hh hn ts, by have := (cmp_len s x ts).1; omega⟩
theorem kp_sync (s : St) : Kp s (syS s) 0 := ⟨syS_n s, fun k => k.sync, syS_len s⟩
theorem Kp.trans {a b c : St} {m k : Nat} (h : Kp a b m) (j : Kp b c k) : Kp a c (m + k) := ⟨j.n.trans h.n, fun z => j.h (h.h z), by have := h.l; have := j.l; omega⟩
theorem Kp.mono {a b : St} {m k : Nat} (h : Kp a b m) (hm : m ≤ k) : Kp a b k := ⟨h.n, h.h, by have := h.l; omega⟩
end Go.Proofs.YtjpaodepnacimaaGreatDoor
namespace Go.Proofs.Bx
open Go.Proofs.Dk Go.Proofs.Lg
abbrev Sl := Bs × Bs
abbrev Bxs := Nat → List Sl
def ids (l : List Sl) : List Bs := l.map fun e => e.1
theorem ids_app (l m : List Sl) : ids (l ++ m) = ids l ++ ids m := List.map_append
def upB (b : Bxs) (u : Nat) (l : List Sl) : Bxs := fun v => if v = u then l else b v
theorem upB_same (b : Bxs) (u : Nat) (l : List Sl) : upB b u l u = l := if_pos rfl
theorem upB_other (b : Bxs) {u v : Nat} (l : List Sl) (h : v ≠ u) : upB b u l v = b v := if_neg h
theorem upB_self (b : Bxs) (u : Nat) : upB b u (b u) = b := by
  funext v
  unfold upB
  by_cases h : v = u
  · rw [if_pos h, h]
  · rw [if_neg h]
theorem upB_upB (b : Bxs) (u : Nat) (l m : List Sl) : upB (upB b u l) u m = upB b u m := by
  funext v
  unfold upB
  by_cases h : v = u
  · rw [if_pos h, if_pos h]
  · rw [if_neg h, if_neg h, if_neg h]
def rmL : List Sl → Bs → List Sl
  | [], _ => []
  | e :: l, i => if e.1 = i then l else e :: rmL l i
theorem rmL_not : ∀ (l : List Sl) (i : Bs), i ∉ ids l → rmL l i = l
  | [], _, _ => rfl
  | e :: l, i, h => by
    rw [rmL, if_neg (fun c => h (by rw [← c]; exact List.mem_cons_self ..)), rmL_not l i (fun c => h (List.mem_cons_of_mem _ c))]
theorem rmL_len : ∀ (l : List Sl) (i : Bs), i ∈ ids l → (rmL l i).length + 1 = l.length
  | [], _, h => by cases h
  | e :: l, i, h => by
    rw [rmL]
    by_cases c : e.1 = i
    · rw [if_pos c, List.length_cons]
    · rw [if_neg c, List.length_cons, List.length_cons]
      rcases List.mem_cons.1 h with h | h
      · exact absurd h.symm c
      · rw [rmL_len l i h]
theorem rmL_sub : ∀ (l : List Sl) (i : Bs), (rmL l i).Sublist l
  | [], _ => List.Sublist.refl _
  | e :: l, i => by
    rw [rmL]
    by_cases c : e.1 = i
    · rw [if_pos c]; exact List.sublist_cons_self ..
    · rw [if_neg c]; exact (rmL_sub l i).cons_cons e
theorem rmL_filter : ∀ (l : List Sl) (i : Bs), (ids l).Nodup → rmL l i = l.filter fun e => !decide (e.1 = i)
  | [], _, _ => rfl
  | e :: l, i, h => by
    have h2 := List.nodup_cons.1 h
    rw [rmL]
    by_cases c : e.1 = i
    · rw [if_pos c, List.filter_cons, if_neg (by simp [c])]
      refine (List.filter_eq_self.2 fun x hx => ?_).symm
      have : x.1 ≠ i := fun d => h2.1 (List.mem_map.2 ⟨x, hx, d.trans c.symm⟩)
      simp [this]
    · rw [if_neg c, List.filter_cons, if_pos (by simp [c]), rmL_filter l i h2.2]
def okI (i : Bs) : Bool := decide (i.length = 16) && !decide (i = zr 16)
theorem okI_len {i : Bs} (h : okI i = true) : i.length = 16 := by
  unfold okI at h
  simp at h
  exact h.1
def putR (u : Nat) (i t : Bs) : Bs := 80 :: UInt8.ofNat u :: (i ++ t)
def ackR (u : Nat) (i : Bs) : Bs := 65 :: UInt8.ofNat u :: i
def rU (r : Bs) : Nat := (r.getD 1 0).toNat
def rI (r : Bs) : Bs := (r.drop 2).take 16
def rT (r : Bs) : Bs := r.drop 18
def isP (l : List Sl) (r : Bs) : Bool := decide (r.getD 0 0 = 80) && okI (rI r) && decide ((rT r).length ≤ 222) && !decide (rI r ∈ ids l)
def isA (l : List Sl) (r : Bs) : Bool := decide (r.getD 0 0 = 65) && decide (rT r = []) && decide (rI r ∈ ids l)
def low (r : Bs) : Bool := decide (18 ≤ r.length) && decide (rU r < 64)
def tkX (b : Bxs) (r : Bs) : Option Bxs :=
  if low r = true then
    if isP (b (rU r)) r = true then some (upB b (rU r) (b (rU r) ++ [(rI r, rT r)]))
    else if isA (b (rU r)) r = true then some (upB b (rU r) (rmL (b (rU r)) (rI r)))
    else none
  else none
def tksX : Bxs → List Bs → Option Bxs
  | b, [] => some b
  | b, r :: l => (tkX b r).bind fun c => tksX c l
theorem tksX_app : ∀ (l : List Bs) (b : Bxs) (m : List Bs), tksX b (l ++ m) = (tksX b l).bind fun c => tksX c m
  | [], _, _ => rfl
  | r :: l, b, m => by
    show (tkX b r).bind (fun c => tksX c (l ++ m)) = ((tkX b r).bind fun c => tksX c l).bind fun c => tksX c m
    cases tkX b r with
    | none => rfl
    | some c => exact tksX_app l c m
theorem putR_at {u : Nat} (hu : u < 64) {i : Bs} (hi : i.length = 16) (t : Bs) : (putR u i t).getD 0 0 = 80 ∧ rU (putR u i t) = u ∧ rI (putR u i t) = i ∧ rT (putR u i t) = t ∧ low (putR u i t) = true := by
  have e1 : rU (putR u i t) = u := by
    show (UInt8.ofNat u).toNat = u
    rw [UInt8.toNat_ofNat']
    omega
  refine ⟨rfl, e1, ?_, ?_, ?_⟩
  · show (i ++ t).take 16 = i
    rw [← hi]
    exact List.take_left
  · show (i ++ t).drop 16 = t
    rw [← hi]
    exact List.drop_left
  · unfold low
    rw [e1]
    have : (putR u i t).length = 18 + t.length := by
      show (i ++ t).length + 1 + 1 = _
      rw [List.length_append]
      omega
    simp [this, hu]
theorem ackR_at {u : Nat} (hu : u < 64) {i : Bs} (hi : i.length = 16) : (ackR u i).getD 0 0 = 65 ∧ rU (ackR u i) = u ∧ rI (ackR u i) = i ∧ rT (ackR u i) = [] ∧ low (ackR u i) = true := by
  have e1 : rU (ackR u i) = u := by
    show (UInt8.ofNat u).toNat = u
    rw [UInt8.toNat_ofNat']
    omega
  refine ⟨rfl, e1, ?_, ?_, ?_⟩
  · show i.take 16 = i
    exact List.take_of_length_le (by omega)
  · show i.drop 16 = []
    exact List.drop_of_length_le (by omega)
  · unfold low
    rw [e1]
    have : (ackR u i).length = 18 := by
      show i.length + 1 + 1 = _
      omega
    simp [this, hu]
theorem tkX_put {b : Bxs} {u : Nat} (hu : u < 64) {i t : Bs} (hi : okI i = true) (ht : t.length ≤ 222) (h : i ∉ ids (b u)) : tkX b (putR u i t) = some (upB b u (b u ++ [(i, t)])) := by
  obtain ⟨a0, a1, a2, a3, a4⟩ := putR_at hu (okI_len hi) t
  unfold tkX isP
  rw [if_pos a4, a0, a1, a2, a3, if_pos (by simp [hi, ht, h])]
theorem tkX_ack {b : Bxs} {u : Nat} (hu : u < 64) {i : Bs} (hi : i.length = 16) (h : i ∈ ids (b u)) : tkX b (ackR u i) = some (upB b u (rmL (b u) i)) := by
  obtain ⟨a0, a1, a2, a3, a4⟩ := ackR_at hu hi
  unfold tkX isP isA
  rw [if_pos a4, a0, a1, a2, a3, if_neg (by simp), if_pos (by simp [h])]
structure Gx (b : Bxs) : Prop where
  u : ∀ u, 64 ≤ u → b u = []
  i : ∀ u e, e ∈ b u → okI e.1 = true ∧ e.2.length ≤ 222
  n : ∀ u, (ids (b u)).Nodup
theorem Gx.nil : Gx fun _ => [] := ⟨fun _ _ => rfl, fun _ _ h => (by cases h), fun _ => List.nodup_nil⟩
theorem Gx.put {b : Bxs} (g : Gx b) {u : Nat} (hu : u < 64) {i t : Bs} (hi : okI i = true) (ht : t.length ≤ 222) (h : i ∉ ids (b u)) : Gx (upB b u (b u ++ [(i, t)])) := by
  refine ⟨fun v hv => ?_, fun v e he => ?_, fun v => ?_⟩
  · rw [upB_other _ _ (by omega), g.u v hv]
  · by_cases c : v = u
    · subst c
      rw [upB_same] at he
      rcases List.mem_append.1 he with he | he
      · exact g.i v e he
      · rw [List.mem_singleton.1 he]; exact ⟨hi, ht⟩
    · rw [upB_other _ _ c] at he; exact g.i v e he
  · by_cases c : v = u
    · subst c
      rw [upB_same, ids_app]
      refine List.nodup_append.2 ⟨g.n v, List.nodup_cons.2 ⟨fun h => (by cases h), List.nodup_nil⟩, fun x hx y hy e => h ?_⟩
      have hi2 : y = i := List.mem_singleton.1 hy
      rw [← hi2, ← e]
      exact hx
    · rw [upB_other _ _ c]; exact g.n v
theorem Gx.rm {b : Bxs} (g : Gx b) (u : Nat) (i : Bs) : Gx (upB b u (rmL (b u) i)) := by
  refine ⟨fun v hv => ?_, fun v e he => ?_, fun v => ?_⟩
  · by_cases c : v = u
    · subst c; rw [upB_same, g.u v hv]; rfl
    · rw [upB_other _ _ c, g.u v hv]
  · by_cases c : v = u
    · subst c
      rw [upB_same] at he
      exact g.i v e ((rmL_sub _ i).subset he)
    · rw [upB_other _ _ c] at he; exact g.i v e he
  · by_cases c : v = u
    · subst c
      rw [upB_same]
      exact ((rmL_sub _ i).map _).nodup (g.n v)
    · rw [upB_other _ _ c]; exact g.n v
theorem Gx.tk {b c : Bxs} (g : Gx b) {r : Bs} (h : tkX b r = some c) : Gx c := by
  unfold tkX at h
  by_cases h1 : low r = true
  · rw [if_pos h1] at h
    have hu : rU r < 64 := by unfold low at h1; simp at h1; exact h1.2
    by_cases h2 : isP (b (rU r)) r = true
    · rw [if_pos h2] at h
      unfold isP at h2
      simp at h2
      cases h
      exact g.put hu h2.1.1.2 h2.1.2 h2.2
    · rw [if_neg h2] at h
      by_cases h3 : isA (b (rU r)) r = true
      · rw [if_pos h3] at h
        cases h
        exact g.rm _ _
      · rw [if_neg h3] at h; cases h
  · rw [if_neg h1] at h; cases h
def manyX (b : Bxs) : Nat → Nat
  | 0 => 0
  | n + 1 => manyX b n + (b n).length
theorem manyX_up : ∀ (n : Nat) (b : Bxs) (u : Nat) (l : List Sl), u < n → manyX (upB b u l) n + (b u).length = manyX b n + l.length
  | 0, _, _, _, h => absurd h (Nat.not_lt_zero _)
  | n + 1, b, u, l, h => by
    have off : ∀ (k : Nat), k ≤ u → manyX (upB b u l) k = manyX b k := by
      intro k
      induction k with
      | zero => intro _; rfl
      | succ k ih =>
        intro hk
        rw [manyX, manyX, ih (by omega), upB_other _ _ (by omega)]
    rw [manyX, manyX]
    by_cases c : u = n
    · subst c
      rw [upB_same, off u (Nat.le_refl _)]
      omega
    · have := manyX_up n b u l (by omega)
      rw [upB_other _ _ (fun e => c e.symm)]
      omega
theorem manyX_at : ∀ (n : Nat) (b : Bxs) (u : Nat), u < n → (b u).length ≤ manyX b n
  | 0, _, _, h => absurd h (Nat.not_lt_zero _)
  | n + 1, b, u, h => by
    rw [manyX]
    by_cases c : u = n
    · subst c; omega
    · have := manyX_at n b u (by omega); omega
def shX (b : Bxs) : List Bs := (List.range 64).flatMap fun u => (b u).map fun e => putR u e.1 e.2
def apX : St → Lo → List Bs → (Int × St) × Lo
  | s, x, [] => ((0, s), x)
  | s, x, r :: l => if (app s x r).1.1 = 0 then apX (app s x r).1.2 (app s x r).2 l else app s x r
def wrX (s : St) (x : Lo) (b c : Bxs) (rs : List Bs) : ((Int × St) × Lo) × Bxs :=
  let y := apX s x rs
  if y.1.1 = 151 then (cmp y.1.2 y.2 (shX c), if (cmp y.1.2 y.2 (shX c)).1.1 = 0 then c else b)
  else if y.1.1 ≠ 0 then (y, b)
  else (((syE y.1.2, syS y.1.2), y.2), if syE y.1.2 = 0 then c else b)
def noU (u : Int) : Bool := decide (u < 0) || decide (64 ≤ u)
def puX (q : Nat) (s : St) (x : Lo) (b : Bxs) (u : Int) (i t : Bs) : ((Int × St) × Lo) × Bxs :=
  if noU u = true then (((1, s), x), b)
  else if okI i = false then (((3, s), x), b)
  else if 222 < t.length then (((2, s), x), b)
  else if i ∈ ids (b u.toNat) then (((6, s), x), b)
  else if q ≤ (b u.toNat).length then (((180, s), x), b)
  else wrX s x b (upB b u.toNat (b u.toNat ++ [(i, t)])) [putR u.toNat i t]
def aks : List Sl → List Bs → List Bs
  | _, [] => []
  | l, i :: m => if i ∈ ids l then i :: aks (rmL l i) m else aks l m
def rms : List Sl → List Bs → List Sl
  | l, [] => l
  | l, i :: m => rms (rmL l i) m
theorem rms_aks : ∀ (m : List Bs) (l : List Sl), rms l (aks l m) = rms l m
  | [], _ => rfl
  | i :: m, l => by
    rw [aks]
    by_cases c : i ∈ ids l
    · rw [if_pos c, rms, rms, rms_aks m]
    · rw [if_neg c, rms, rmL_not l i c, rms_aks m]
theorem aks_tk : ∀ (m : List Bs) (b : Bxs) (u : Nat), u < 64 → (∀ i ∈ m, i.length = 16) → tksX b ((aks (b u) m).map (ackR u)) = some (upB b u (rms (b u) m))
  | [], b, u, _, _ => by
    rw [aks, rms, upB_self]
    rfl
  | i :: m, b, u, hu, hm => by
    rw [aks]
    by_cases c : i ∈ ids (b u)
    · rw [if_pos c, rms, List.map_cons, tksX, tkX_ack hu (hm i (List.mem_cons_self ..)) c]
      have := aks_tk m (upB b u (rmL (b u) i)) u hu (fun x hx => hm x (List.mem_cons_of_mem _ hx))
      rw [upB_same, upB_upB] at this
      exact this
    · rw [if_neg c, rms, rmL_not _ _ c]
      exact aks_tk m b u hu (fun x hx => hm x (List.mem_cons_of_mem _ hx))
theorem aks_len : ∀ (m : List Bs) (l : List Sl), (aks l m).length ≤ m.length ∧ (aks l m).length ≤ l.length
  | [], _ => ⟨Nat.le_refl _, Nat.zero_le _⟩
  | i :: m, l => by
    rw [aks]
    by_cases c : i ∈ ids l
    · have h := aks_len m (rmL l i)
      have := rmL_len l i c
      rw [if_pos c, List.length_cons, List.length_cons]
      omega
    · have h := aks_len m l
      rw [if_neg c, List.length_cons]
      omega
def akX (s : St) (x : Lo) (b : Bxs) (u : Int) (m : List Bs) : Nat × (((Int × St) × Lo) × Bxs) :=
  if noU u = true then (0, (((1, s), x), b))
  else if (m.any fun i => !okI i) = true then (0, (((3, s), x), b))
  else if 256 < m.length then (0, (((2, s), x), b))
  else if aks (b u.toNat) m = [] then (0, (((0, s), x), b))
  else
    let y := wrX s x b (upB b u.toNat (rms (b u.toNat) m)) ((aks (b u.toNat) m).map (ackR u.toNat))
    (if y.1.1.1 = 0 then (aks (b u.toNat) m).length else 0, y)
def fiX (b : Bxs) (u n : Int) : Int × List Sl :=
  if noU u = true ∨ n < 0 ∨ 256 < n then (1, []) else (0, (b u.toNat).take n.toNat)
def opX (q : Int) (s : St) (o : (Int × St) × Lo) : (Int × St) × Option (Lo × Bxs) :=
  if q < 1 ∨ 256 < q then ((1, s), none)
  else if o.1.1 ≠ 0 then (o.1, none)
  else match tksX (fun _ => []) o.2.ts with
    | none => ((160, o.1.2), none)
    | some b => ((0, o.1.2), some (o.2, b))
abbrev En := Nat × Sl
def plc : List En → Nat → Bs → Nat
  | [], _, _ => 0
  | e :: E, u, i => if e.1 = u ∧ e.2.1 = i then 0 else plc E u i + 1
end Go.Proofs.Bx
namespace Go.Proofs.YtjpaodepnacimaaGreatDoor
open Go.RowKit Go.Proofs.Fd Go.Proofs.Dk Go.Proofs.Lg Go.Proofs.Bx
set_option maxRecDepth 20000
theorem app_half (s : St) (x : Lo) (t : Bs) : (app s x t).2.h = x.h := by
  unfold app
  split
  · rfl
  · split
    · rfl
    · show (if _ then _ else _ : Lo).h = _
      split <;> rfl
theorem kp_apX : ∀ (rs : List Bs) (s : St) (x : Lo), x.h ≤ 1 → Kp s (apX s x rs).1.2 (40 * rs.length) ∧ (apX s x rs).2.h ≤ 1
  | [], s, x, hh => ⟨Kp.refl _ _, hh⟩
  | r :: l, s, x, hh => by
    have k := kp_app (s := s) hh r
    have hh2 : (app s x r).2.h ≤ 1 := by rw [app_half]; exact hh
    rw [apX, List.length_cons]
    by_cases c : (app s x r).1.1 = 0
    · rw [if_pos c]
      obtain ⟨a, b⟩ := kp_apX l (app s x r).1.2 (app s x r).2 hh2
      exact ⟨(k.trans a).mono (by omega), b⟩
    · rw [if_neg c]
      exact ⟨k.mono (by omega), hh2⟩
theorem kp_wrX {s : St} {x : Lo} (hh : x.h ≤ 1) (hn : 4 ≤ s.n) (b c : Bxs) (rs : List Bs) : Kp s (wrX s x b c rs).1.1.2 (s.n + 1 + 40 * rs.length) ∧ (wrX s x b c rs).1.2.h ≤ 1 := by
  obtain ⟨k, h1⟩ := kp_apX rs s x hh
  unfold wrX
  by_cases c1 : (apX s x rs).1.1 = 151
  · simp only [if_pos c1]
    have hn2 : 4 ≤ (apX s x rs).1.2.n := by rw [k.n]; exact hn
    have z := kp_cmp h1 hn2 (shX c)
    rw [k.n] at z
    exact ⟨(k.trans z).mono (by omega), cmp_h h1 _⟩
  · simp only [if_neg c1]
    by_cases c2 : (apX s x rs).1.1 ≠ 0
    · simp only [if_pos c2]
      exact ⟨k.mono (by omega), h1⟩
    · simp only [if_neg c2]
      exact ⟨(k.trans (kp_sync _)).mono (by omega), h1⟩
theorem kp_puX {q : Nat} {s : St} {x : Lo} (hh : x.h ≤ 1) (hn : 4 ≤ s.n) (b : Bxs) (u : Int) (i t : Bs) : Kp s (puX q s x b u i t).1.1.2 (s.n + 41) ∧ (puX q s x b u i t).1.2.h ≤ 1 := by
  unfold puX
  split
  · exact ⟨Kp.refl _ _, hh⟩
  · split
    · exact ⟨Kp.refl _ _, hh⟩
    · split
      · exact ⟨Kp.refl _ _, hh⟩
      · split
        · exact ⟨Kp.refl _ _, hh⟩
        · split
          · exact ⟨Kp.refl _ _, hh⟩
          · exact kp_wrX hh hn b _ _
theorem kp_akX {s : St} {x : Lo} (hh : x.h ≤ 1) (hn : 4 ≤ s.n) (b : Bxs) (u : Int) (m : List Bs) : Kp s (akX s x b u m).2.1.1.2 (s.n + 10300) ∧ (akX s x b u m).2.1.2.h ≤ 1 := by
  unfold akX
  split
  · exact ⟨Kp.refl _ _, hh⟩
  · split
    · exact ⟨Kp.refl _ _, hh⟩
    · split
      · exact ⟨Kp.refl _ _, hh⟩
      · split
        · exact ⟨Kp.refl _ _, hh⟩
        · rename_i h3 h4
          have z := kp_wrX (s := s) hh hn b (upB b u.toNat (rms (b u.toNat) m)) ((aks (b u.toNat) m).map (ackR u.toNat))
          have hl := (aks_len m (b u.toNat)).1
          rw [List.length_map] at z
          exact ⟨z.1.mono (by omega), z.2⟩
structure Gm (n : Nat) (b : Bxs) : Prop where
  g : Gx b
  m : manyX b 64 ≤ n
theorem Gm.mono {n m : Nat} {b : Bxs} (h : Gm n b) (k : n ≤ m) : Gm m b := ⟨h.g, Nat.le_trans h.m k⟩
theorem rmL_le (l : List Sl) (i : Bs) : (rmL l i).length ≤ l.length := (rmL_sub l i).length_le
theorem Gm.put {n : Nat} {b : Bxs} (h : Gm n b) {u : Nat} (hu : u < 64) {i t : Bs} (hi : okI i = true) (ht : t.length ≤ 222) (hn : i ∉ ids (b u)) : Gm (n + 1) (upB b u (b u ++ [(i, t)])) := by
  refine ⟨h.g.put hu hi ht hn, ?_⟩
  have z := manyX_up 64 b u (b u ++ [(i, t)]) hu
  rw [List.length_append, List.length_singleton] at z
  have := h.m
  omega
theorem Gm.rm {n : Nat} {b : Bxs} (h : Gm n b) {u : Nat} (hu : u < 64) (i : Bs) : Gm n (upB b u (rmL (b u) i)) := by
  refine ⟨h.g.rm u i, ?_⟩
  have z := manyX_up 64 b u (rmL (b u) i) hu
  have := rmL_le (b u) i
  have := h.m
  omega
theorem Gm.rms {n : Nat} : ∀ (m : List Bs) {b : Bxs}, Gm n b → ∀ {u : Nat}, u < 64 → Gm n (upB b u (rms (b u) m))
  | [], b, h, u, _ => by rw [Bx.rms, upB_self]; exact h
  | i :: m, b, h, u, hu => by
    have z := Gm.rms m (h.rm hu i) hu
    rw [upB_same, upB_upB] at z
    exact z
theorem Gm.tk {n : Nat} {b c : Bxs} (h : Gm n b) {r : Bs} (e : tkX b r = some c) : Gm (n + 1) c := by
  refine ⟨h.g.tk e, ?_⟩
  unfold tkX at e
  by_cases h1 : low r = true
  · rw [if_pos h1] at e
    have hu : rU r < 64 := by unfold low at h1; simp at h1; exact h1.2
    have hm := h.m
    by_cases h2 : isP (b (rU r)) r = true
    · rw [if_pos h2] at e
      cases e
      have z := manyX_up 64 b (rU r) (b (rU r) ++ [(rI r, rT r)]) hu
      rw [List.length_append, List.length_singleton] at z
      omega
    · rw [if_neg h2] at e
      by_cases h3 : isA (b (rU r)) r = true
      · rw [if_pos h3] at e
        cases e
        exact Nat.le_trans (h.rm hu _).m (Nat.le_succ _)
      · rw [if_neg h3] at e; cases e
  · rw [if_neg h1] at e; cases e
theorem Gm.nil : Gm 0 fun _ => [] := ⟨Gx.nil, by decide⟩
theorem noU_lt {u : Int} (h : ¬ noU u = true) : 0 ≤ u ∧ u < 64 ∧ u.toNat < 64 := by
  unfold noU at h
  simp at h
  omega
theorem gm_wrX {n : Nat} {s : St} {x : Lo} {b c : Bxs} (h : Gm n b) (k : Gm n c) (rs : List Bs) : Gm n (wrX s x b c rs).2 := by
  unfold wrX
  by_cases c1 : (apX s x rs).1.1 = 151
  · simp only [if_pos c1]
    split <;> assumption
  · simp only [if_neg c1]
    by_cases c2 : (apX s x rs).1.1 ≠ 0
    · simp only [if_pos c2]
      exact h
    · simp only [if_neg c2]
      split <;> assumption
theorem gm_puX {n q : Nat} {s : St} {x : Lo} {b : Bxs} (h : Gm n b) (u : Int) (i t : Bs) : Gm (n + 1) (puX q s x b u i t).2 := by
  have up := h.mono (Nat.le_succ n)
  unfold puX
  split
  · exact up
  · rename_i h1
    split
    · exact up
    · rename_i h2
      split
      · exact up
      · rename_i h3
        split
        · exact up
        · rename_i h4
          split
          · exact up
          · exact gm_wrX up (h.put (noU_lt h1).2.2 (by simpa using h2) (by omega) h4) _
theorem gm_akX {n : Nat} {s : St} {x : Lo} {b : Bxs} (h : Gm n b) (u : Int) (m : List Bs) : Gm n (akX s x b u m).2.2 := by
  unfold akX
  split
  · exact h
  · rename_i h1
    split
    · exact h
    · split
      · exact h
      · split
        · exact h
        · exact gm_wrX h (Gm.rms m h (noU_lt h1).2.2) _
theorem shX_len (b : Bxs) : (shX b).length = manyX b 64 := by
  have h : ∀ n, ((List.range n).flatMap fun u => (b u).map fun e => putR u e.1 e.2).length = manyX b n := by
    intro n
    induction n with
    | zero => rfl
    | succ n ih =>
      rw [List.range_succ, List.flatMap_append, List.length_append, ih, manyX]
      simp
  exact h 64
end Go.Proofs.YtjpaodepnacimaaGreatDoor
