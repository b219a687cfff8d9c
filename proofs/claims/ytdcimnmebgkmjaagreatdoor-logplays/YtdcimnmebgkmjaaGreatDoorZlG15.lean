/- Parts: LgN, LgB. -/
import Derived.Test.YtdcimnmebgkmjaaGreatDoorZlG14
import Derived.Test.YtdcimnmebgkmjaaGreatDoorZlG05
namespace Go.Proofs.Lg
open Go.Proofs.Dk
abbrev up (n : Nat) (f : Nat → Bs) (l : List Wt) : St := ⟨n, f, l, 0, false⟩
theorem rch_u {n : Nat} {f : Nat → Bs} {l : List Wt} {k : Nat} (hk : k < n) : rch (up n f l) (k : Int) = 0 := by
  unfold rch
  rw [if_neg (by simp), if_neg (by show ¬ ((k : Int) < 0 ∨ (n : Int) ≤ (k : Int)); omega)]
theorem wr_u {n : Nat} {f : Nat → Bs} {l : List Wt} {k : Nat} (hk : k < n) {t : Bs} (ht : t.length = 64) : wrE (up n f l) (k : Int) t = 0 ∧ wrS (up n f l) (k : Int) t = up n f (l ++ [⟨k, t⟩]) := by
  have hr := rch_u (f := f) (l := l) hk
  constructor
  · unfold wrE
    rw [if_neg (by rw [hr]; decide), if_neg (by rw [ht]; decide), if_neg (by show ¬ (0 : Nat) = 1; decide)]
  · unfold wrS
    rw [if_neg (by rw [hr]; decide), if_neg (by rw [ht]; decide), if_neg (by show ¬ (0 : Nat) = 1; decide)]
    rfl
theorem sy_u (n : Nat) (f : Nat → Bs) (l : List Wt) : syE (up n f l) = 0 ∧ syS (up n f l) = up n (lay f l) [] := ⟨rfl, rfl⟩
theorem lay_lay : ∀ (l : List Wt) (f : Nat → Bs) (m : List Wt), lay f (l ++ m) = lay (lay f l) m
  | [], _, _ => rfl
  | x :: l, f, m => by rw [List.cons_append, lay, lay_lay l, lay]
def wts : Nat → List Bs → List Wt
  | _, [] => []
  | k, b :: l => ⟨k, b⟩ :: wts (k + 1) l
theorem wts_len : ∀ (l : List Bs) (k : Nat), (wts k l).length = l.length
  | [], _ => rfl
  | _ :: l, k => by rw [wts, List.length_cons, List.length_cons, wts_len l]
theorem wts_app : ∀ (l m : List Bs) (k : Nat), wts k (l ++ m) = wts k l ++ wts (k + l.length) m
  | [], _, _ => rfl
  | b :: l, m, k => by
    rw [List.cons_append, wts, wts_app l m, wts, List.cons_append, List.length_cons, show k + 1 + l.length = k + (l.length + 1) by omega]
theorem wts_at : ∀ (l : List Bs) (k : Nat) (f : Nat → Bs) (j : Nat), lay f (wts k l) j = if h : k ≤ j ∧ j < k + l.length then l[j - k]'(by omega) else f j
  | [], k, f, j => by
    rw [wts, lay, dif_neg (by simp only [List.length_nil]; omega)]
  | b :: l, k, f, j => by
    rw [wts, lay, wts_at l (k + 1) _ j]
    by_cases h : k + 1 ≤ j ∧ j < k + 1 + l.length
    · rw [dif_pos h, dif_pos (by rw [List.length_cons]; omega)]
      obtain ⟨i, hi⟩ : ∃ i, j - k = i + 1 := ⟨j - k - 1, by omega⟩
      have e : j - (k + 1) = i := by omega
      simp [hi, e]
    · rw [dif_neg h]
      by_cases h2 : j = k
      · subst h2
        rw [upd_same, dif_pos (by rw [List.length_cons]; omega)]
        simp
      · rw [upd_other _ _ h2, dif_neg (by rw [List.length_cons]; omega)]
theorem wrs_u : ∀ (bs : List Bs) (n k : Nat) (f : Nat → Bs) (l : List Wt), k + bs.length ≤ n → (∀ b ∈ bs, b.length = 64) → wrs (up n f l) k bs = (0, up n f (l ++ wts k bs))
  | [], n, k, f, l, _, _ => by rw [wrs, wts, List.append_nil]
  | b :: bs, n, k, f, l, h, hb => by
    have hw := wr_u (n := n) (f := f) (l := l) (k := k) (by rw [List.length_cons] at h; omega) (hb b (List.mem_cons_self ..))
    rw [wrs, thn_ok hw.1, hw.2, wrs_u bs n (k + 1) f _ (by rw [List.length_cons] at h; omega) (fun x hx => hb x (List.mem_cons_of_mem _ hx)), wts, List.append_assoc]
    rfl
theorem wrb_u {b : Bs} {m : Nat} (hb : b.length = 64 * m) {n k : Nat} (h : k + m ≤ n) (f : Nat → Bs) (l : List Wt) : wrb (up n f l) k b = (0, up n f (l ++ wts k (chs m b))) := by
  have e : b.length / 64 = m := by omega
  rw [wrb, e]
  exact wrs_u _ n k f l (by rw [chs_len]; exact h) (chs_64 m b hb)
def wip (k m : Nat) (f : Nat → Bs) : Nat → Bs := fun j => if k ≤ j ∧ j < k + m then zr 64 else f j
theorem wip_zero (k : Nat) (f : Nat → Bs) : wip k 0 f = f := by
  funext j
  unfold wip
  rw [if_neg (by omega)]
theorem cls_u : ∀ (m n k : Nat) (f : Nat → Bs) (l : List Wt) (d : Bool), k + m ≤ n → ∃ f' l', cls (up n f l) k m d = (0, up n f' l') ∧ lay f' l' = wip k m (lay f l) ∧ l'.length ≤ l.length + m
  | 0, n, k, f, l, d, _ => by
    rw [cls, wip_zero]
    cases d
    · exact ⟨f, l, by simp, rfl, Nat.le_refl _⟩
    · exact ⟨lay f l, [], by rw [if_pos rfl]; rfl, rfl, Nat.zero_le _⟩
  | m + 1, n, k, f, l, d, h => by
    rw [cls]
    by_cases hz : St.sh (up n f l) k = zr 64
    · rw [if_pos hz]
      obtain ⟨f', l', h1, h2, h3⟩ := cls_u m n (k + 1) f l d (by omega)
      refine ⟨f', l', h1, ?_, by omega⟩
      rw [h2]
      funext j
      unfold wip
      by_cases hj : j = k
      · subst hj
        rw [if_neg (by omega), if_pos (by omega)]
        exact hz
      · by_cases hj2 : k + 1 ≤ j ∧ j < k + 1 + m
        · rw [if_pos hj2, if_pos (by omega)]
        · rw [if_neg hj2, if_neg (by omega)]
    · rw [if_neg hz]
      have hw := wr_u (n := n) (f := f) (l := l) (k := k) (by omega) (zr_len 64)
      rw [thn_ok hw.1, hw.2]
      obtain ⟨f', l', h1, h2, h3⟩ := cls_u m n (k + 1) f (l ++ [⟨k, zr 64⟩]) true (by omega)
      refine ⟨f', l', h1, ?_, by rw [List.length_append] at h3; simp only [List.length_cons, List.length_nil] at h3; omega⟩
      rw [h2, lay_app]
      funext j
      unfold wip
      by_cases hj : j = k
      · subst hj
        rw [if_neg (by omega), if_pos (by omega)]
        exact upd_same ..
      · by_cases hj2 : k + 1 ≤ j ∧ j < k + 1 + m
        · rw [if_pos hj2, if_pos (by omega)]
        · rw [if_neg hj2, if_neg (by omega)]
          exact upd_other _ _ hj
theorem cln_u {m n k : Nat} (f : Nat → Bs) (l : List Wt) (h : k + m ≤ n) : ∃ f' l', cln (up n f l) k m = (0, up n f' l') ∧ lay f' l' = wip k m (lay f l) ∧ l'.length ≤ l.length + m := by
  rw [cln, if_neg (by simp)]
  exact cls_u m n k f l false h
theorem cls_none : ∀ (m : Nat) (s : St) (k : Nat), (∀ i, i < m → s.sh (k + i) = zr 64) → cls s k m false = (0, s)
  | 0, s, k, _ => by rw [cls, if_neg (by simp)]
  | m + 1, s, k, h => by
    rw [cls, if_pos (show s.sh k = zr 64 from h 0 (by omega))]
    exact cls_none m s (k + 1) (fun i hi => by rw [show k + 1 + i = k + (i + 1) by omega]; exact h (i + 1) (by omega))
theorem cln_none {s : St} (hd : s.down = false) {k m : Nat} (h : ∀ i, i < m → s.sh (k + i) = zr 64) : cln s k m = (0, s) := by
  rw [cln, if_neg (by rw [hd]; simp)]
  exact cls_none m s k h
def rcs : Bs → List Bs → Bs
  | _, [] => []
  | a, t :: l => rcd a t ++ rcs (rmk a t) l
theorem rcs_len : ∀ (l : List Bs) (a : Bs), (rcs a l).length = 64 * sns l
  | [], _ => rfl
  | t :: l, a => by
    rw [rcs, List.length_append, rcd_len, rcs_len l, sns]
    omega
theorem tkn_sns : ∀ (l : List Bs) (k : Nat), tkn k l = k + sns l
  | [], _ => rfl
  | t :: l, k => by
    rw [tkn, tkn_sns l, sns]
    omega
theorem chs_app : ∀ (m : Nat) (x y : Bs) (q : Nat), x.length = 64 * m → chs (m + q) (x ++ y) = chs m x ++ chs q y
  | 0, x, y, q, h => by
    obtain rfl : x = [] := List.length_eq_zero_iff.1 (by omega)
    rw [Nat.zero_add, List.nil_append, chs, List.nil_append]
  | m + 1, x, y, q, h => by
    rw [show m + 1 + q = (m + q) + 1 by omega, chs, chs, List.take_append_of_le_length (by omega), List.drop_append_of_le_length (by omega), chs_app m _ y q (by rw [List.length_drop]; omega), List.cons_append]
theorem pts_u : ∀ (ts : List Bs) (n k tk : Nat) (a : Bs) (f : Nat → Bs) (l : List Wt), k + tk + sns ts ≤ n → pts (up n f l) k tk a ts = (0, up n f (l ++ wts (k + tk) (chs (sns ts) (rcs a ts))))
  | [], n, k, tk, a, f, l, _ => by rw [pts, sns, chs, wts, List.append_nil]
  | t :: ts, n, k, tk, a, f, l, h => by
    rw [sns] at h
    have hw := wrb_u (rcd_len a t) (n := n) (k := k + tk) (by omega) f l
    rw [pts, thn_ok (by rw [hw]), hw, pts_u ts n k (tk + sn t) (rmk a t) f _ (by omega), rcs, sns, chs_app (sn t) _ _ (sns ts) (rcd_len a t), wts_app, chs_len, List.append_assoc, Nat.add_assoc]
def bgf (k H : Nat) (b : Bs) (f : Nat → Bs) : Nat → Bs := lay (wip k H f) (wts k (chs (b.length / 64) b))
theorem upd_upd_comm {f : Nat → Bs} {i j : Nat} (a b : Bs) (h : i ≠ j) : upd (upd f i a) j b = upd (upd f j b) i a := by
  funext q
  unfold upd
  by_cases h1 : q = j
  · by_cases h2 : q = i
    · omega
    · simp [h1, show j ≠ i by omega]
  · simp [h1]
theorem lay_upd : ∀ (l : List Wt) (f : Nat → Bs) (k : Nat) (b : Bs), (∀ x ∈ l, x.k ≠ k) → upd (lay f l) k b = lay (upd f k b) l
  | [], _, _, _, _ => rfl
  | x :: l, f, k, b, h => by
    rw [lay, lay, lay_upd l _ k b (fun y hy => h y (List.mem_cons_of_mem _ hy)), upd_upd_comm _ _ (h x (List.mem_cons_self ..))]
theorem wts_gt : ∀ (l : List Bs) (k : Nat), ∀ x ∈ wts k l, k ≤ x.k
  | [], _, _, h => by cases h
  | b :: l, k, x, h => by
    rw [wts] at h
    rcases List.mem_cons.1 h with rfl | h
    · exact Nat.le_refl _
    · exact Nat.le_trans (Nat.le_succ k) (wts_gt l (k + 1) x h)
theorem bgn_u {n k H g : Nat} {ts : List Bs} (f : Nat → Bs) (l : List Wt) (h : k + H ≤ n) (hs : 1 + sns ts ≤ H) : bgn (up n f l) k H g ts = (0, up n (bgf k H (hd g ++ rcs (hm g) ts) (lay f l)) []) := by
  obtain ⟨f1, l1, e1, e2, -⟩ := cln_u (n := n) f l h
  rw [bgn, thn_ok (by rw [e1]), e1]
  have e3 := pts_u ts n k 1 (hm g) f1 l1 (by omega)
  rw [thn_ok (by rw [e3]), e3]
  have e4 := sy_u n f1 (l1 ++ wts (k + 1) (chs (sns ts) (rcs (hm g) ts)))
  rw [thn_ok e4.1, e4.2]
  have e5 := wrb_u (b := hd g) (m := 1) (by rw [hd_len]) (n := n) (k := k) (by omega) (lay f1 (l1 ++ wts (k + 1) (chs (sns ts) (rcs (hm g) ts)))) []
  rw [thn_ok (by rw [e5]), e5]
  have e6 := sy_u n (lay f1 (l1 ++ wts (k + 1) (chs (sns ts) (rcs (hm g) ts)))) ([] ++ wts k (chs 1 (hd g)))
  rw [e6.1, e6.2]
  congr 2
  have hl : (hd g ++ rcs (hm g) ts).length / 64 = 1 + sns ts := by
    rw [List.length_append, hd_len, rcs_len]
    omega
  rw [bgf, hl, chs_app 1 _ _ _ (by rw [hd_len]), wts_app, chs_len, List.nil_append, lay_lay l1, e2, lay_lay (wts k (chs 1 (hd g)))]
  have e7 : chs 1 (hd g) = [hd g] := by rw [chs, chs, List.take_of_length_le (by rw [hd_len]; omega)]
  rw [e7]
  show upd (lay (wip k H (lay f l)) (wts (k + 1) _)) k (hd g) = lay (upd (wip k H (lay f l)) k (hd g)) _
  exact lay_upd _ _ _ _ (fun x hx => by have := wts_gt _ _ x hx; omega)
theorem hb_app (s : St) (k a b : Nat) : hb s k (a + b) = hb s k a ++ hb s (k + a) b := by
  induction b with
  | zero => simp [hb]
  | succ b ih => rw [show a + (b + 1) = (a + b) + 1 by omega, hb_succ, ih, hb_succ, List.append_assoc, Nat.add_assoc]
theorem hb_of {s : St} : ∀ (m k : Nat) (b : Bs), b.length = 64 * m → (∀ i (hi : i < m), s.sh (k + i) = (chs m b)[i]'(by rw [chs_len]; exact hi)) → hb s k m = b
  | 0, k, b, hl, _ => by
    obtain rfl : b = [] := List.length_eq_zero_iff.1 (by omega)
    rfl
  | m + 1, k, b, hl, h => by
    rw [show m + 1 = 1 + m by omega, hb_app]
    have h0 : hb s k 1 = b.take 64 := by
      have := h 0 (by omega)
      simpa [hb, chs] using this
    rw [h0, hb_of m (k + 1) (b.drop 64) (by rw [List.length_drop]; omega) (fun i hi => by
      have := h (i + 1) (by omega)
      rw [show k + 1 + i = k + (i + 1) by omega, this]
      simp [chs]), List.take_append_drop]
theorem hb_zero {s : St} : ∀ (m k : Nat), (∀ i, i < m → s.sh (k + i) = zr 64) → hb s k m = zr (64 * m)
  | 0, _, _ => rfl
  | m + 1, k, h => by
    rw [hb_succ, hb_zero m k (fun i hi => h i (by omega)), h m (by omega)]
    unfold zr
    rw [List.replicate_append_replicate, show 64 * m + 64 = 64 * (m + 1) by omega]
theorem bgf_in {k H : Nat} {b : Bs} (f : Nat → Bs) {i : Nat} (hi : i < b.length / 64) : bgf k H b f (k + i) = (chs (b.length / 64) b)[i]'(by rw [chs_len]; exact hi) := by
  rw [bgf, wts_at, dif_pos (by rw [chs_len]; omega)]
  congr 1
  omega
theorem bgf_zero {k H : Nat} {b : Bs} (f : Nat → Bs) {i : Nat} (hi : b.length / 64 ≤ i) (hH : i < H) : bgf k H b f (k + i) = zr 64 := by
  rw [bgf, wts_at, dif_neg (by rw [chs_len]; omega), wip, if_pos (by omega)]
theorem bgf_out {k H : Nat} {b : Bs} (f : Nat → Bs) {j : Nat} (hb : b.length / 64 ≤ H) (hj : j < k ∨ k + H ≤ j) : bgf k H b f j = f j := by
  rw [bgf, wts_at, dif_neg (by rw [chs_len]; omega), wip, if_neg (by omega)]
theorem hb_bgf {n k H : Nat} {b : Bs} {m : Nat} (hl : b.length = 64 * m) (hm : m ≤ H) (f : Nat → Bs) : hb (up n (bgf k H b f) []) k H = b ++ zr (64 * (H - m)) := by
  have e : b.length / 64 = m := by omega
  obtain ⟨d, rfl⟩ : ∃ d, H = m + d := ⟨H - m, by omega⟩
  rw [hb_app, hb_of m k b hl (fun i hi => ?_), hb_zero d (k + m) (fun i hi => ?_), show m + d - m = d by omega]
  · have := bgf_zero (k := k) (H := m + d) (b := b) f (i := m + i) (by omega) (by omega)
    rw [← Nat.add_assoc] at this
    exact this
  · have := bgf_in (k := k) (H := m + d) (b := b) f (i := i) (by omega)
    simp only [e] at this
    exact this
theorem nm_ben4 {g : Nat} (h : g < 4294967296) : nm (ben g 4) = g := by
  simp [nm, ben, List.range_succ]
  omega
theorem nm_ben2 {g : Nat} (h : g < 65536) : nm (ben g 2) = g := by
  simp [nm, ben, List.range_succ]
  omega
theorem hd_num (g : Nat) (r : Bs) : ((hd g ++ r).drop 4).take 4 = ben g 4 := by
  have e : hd g ++ r = [76, 79, 71, 0] ++ (ben g 4 ++ (hm g ++ zr ((64 - (hf g ++ hm g).length % 64) % 64) ++ r)) := by
    simp [hd, pdd, hf]
  rw [e]
  show (ben g 4 ++ _).take 4 = _
  rw [List.take_left' (ben_len g 4)]
theorem gen_hd {g : Nat} (h : g ≤ 2147483647) (r : Bs) : gen (hd g ++ r) = g := by
  rw [gen, hd_num, nm_ben4 (by omega), if_pos ⟨h, List.isPrefixOf_iff_prefix.2 (List.prefix_append _ _)⟩]
theorem nm_zr : ∀ m : Nat, nm (zr m) = 0
  | 0 => rfl
  | m + 1 => by
    have := nm_zr m
    unfold nm zr at this ⊢
    rw [List.replicate_succ, List.foldl_cons]
    exact this
theorem gen_zr (m : Nat) : gen (zr m) = 0 := by
  have e : ((zr m).drop 4).take 4 = zr (min 4 (m - 4)) := by
    unfold zr
    rw [List.drop_replicate, List.take_replicate]
  rw [gen, e, nm_zr]
  split <;> rfl
theorem rof_zr (m : Nat) (a : Bs) : rof (zr m) a = none := by
  have e : (zr m).take 2 = zr (min 2 m) := by
    unfold zr
    rw [List.take_replicate]
  unfold rof
  rw [e, nm_zr]
  split
  · rfl
  · rw [if_pos (.inl (by decide))]
theorem rof_rcd {a t : Bs} (r : Bs) (h1 : 1 ≤ t.length) (h2 : t.length ≤ 2000) : rof (rcd a t ++ r) a = some t := by
  have hs := sn_pos t
  have hl : (rcd a t ++ r).length = 64 * sn t + r.length := by rw [List.length_append, rcd_len]
  have hsn : 18 + t.length ≤ 64 * sn t := by unfold sn; omega
  have e : rcd a t ++ r = ben t.length 2 ++ (rmk a t ++ (t ++ (zr ((64 - (ben t.length 2 ++ rmk a t ++ t).length % 64) % 64) ++ r))) := by
    simp [rcd, pdd]
  have e2 : (rcd a t ++ r).take 2 = ben t.length 2 := by rw [e, List.take_left' (ben_len _ _)]
  have e3 : ((rcd a t ++ r).drop 18).take t.length = t := by
    rw [e, ← List.append_assoc (ben t.length 2), List.drop_left' (by rw [List.length_append, ben_len, rmk, mk_len]), List.take_left' rfl]
  unfold rof
  rw [e2, nm_ben2 (by omega), hl, if_neg (by omega), if_neg (by omega), e3, if_pos (List.isPrefixOf_iff_prefix.2 (List.prefix_append _ _))]
theorem scan_rcs : ∀ (ts : List Bs) (a : Bs) (m z : Nat), (∀ t ∈ ts, 1 ≤ t.length ∧ t.length ≤ 2000) → ts.length ≤ m → scan m (rcs a ts ++ zr z) a = ts
  | [], a, 0, z, _, _ => rfl
  | [], a, m + 1, z, _, _ => by
    have e : rof (rcs a [] ++ zr z) a = none := rof_zr z a
    rw [scan, e]
  | t :: ts, a, 0, z, _, h => by simp at h
  | t :: ts, a, m + 1, z, h, hm => by
    have ht := h t (List.mem_cons_self ..)
    have e : rof (rcs a (t :: ts) ++ zr z) a = some t := by
      rw [rcs, List.append_assoc]
      exact rof_rcd _ ht.1 ht.2
    rw [scan, e]
    have ed : (rcs a (t :: ts) ++ zr z).drop (64 * sn t) = rcs (rmk a t) ts ++ zr z := by
      rw [rcs, List.append_assoc, List.drop_left' (rcd_len a t)]
    show t :: scan m _ (rmk a t) = _
    rw [ed, scan_rcs ts (rmk a t) m z (fun x hx => h x (List.mem_cons_of_mem _ hx)) (by rw [List.length_cons] at hm; omega)]
theorem sns_len : ∀ ts : List Bs, ts.length ≤ sns ts
  | [] => Nat.le_refl _
  | t :: ts => by
    have := sn_pos t
    have := sns_len ts
    rw [sns, List.length_cons]
    omega
theorem opn_back {n h g : Nat} {ts : List Bs} (f : Nat → Bs) (hH : 2 ≤ n / 2) (hh : h ≤ 1) (hg0 : 1 ≤ g) (hg : g ≤ 2147483647) (hs : 1 + sns ts ≤ n / 2) (ht : ∀ t ∈ ts, 1 ≤ t.length ∧ t.length ≤ 2000)
    (ho : gen (hb (up n (bgf (h * (n / 2)) (n / 2) (hd g ++ rcs (hm g) ts) f) []) ((1 - h) * (n / 2)) (n / 2)) < g) :
    opn (up n (bgf (h * (n / 2)) (n / 2) (hd g ++ rcs (hm g) ts) f) []) = ((0, up n (bgf (h * (n / 2)) (n / 2) (hd g ++ rcs (hm g) ts) f) []), ⟨h, g, ts⟩) := by
  have hbh := hb_bgf (n := n) (k := h * (n / 2)) (H := n / 2) (b := hd g ++ rcs (hm g) ts) (m := 1 + sns ts) (by rw [List.length_append, hd_len, rcs_len]; omega) hs f
  have e0 : (hd g ++ rcs (hm g) ts).length / 64 = 1 + sns ts := by
    rw [List.length_append, hd_len, rcs_len]
    omega
  have hZ : ∀ i, i < n / 2 - (1 + sns ts) → St.sh (up n (bgf (h * (n / 2)) (n / 2) (hd g ++ rcs (hm g) ts) f) []) (h * (n / 2) + (1 + sns ts) + i) = zr 64 := fun i hi => by
    have := bgf_zero (k := h * (n / 2)) (H := n / 2) (b := hd g ++ rcs (hm g) ts) f (i := 1 + sns ts + i) (by omega) (by omega)
    rw [← Nat.add_assoc] at this
    exact this
  obtain ⟨s, hse⟩ : ∃ s, up n (bgf (h * (n / 2)) (n / 2) (hd g ++ rcs (hm g) ts) f) [] = s := ⟨_, rfl⟩
  have hn : s.n = n := by rw [← hse]
  have hdn : s.down = false := by rw [← hse]
  rw [hse] at hbh ho hZ ⊢
  have gh : gen (hb s (h * (n / 2)) (n / 2)) = g := by
    rw [hbh, List.append_assoc]
    exact gen_hd hg _
  have hu : use s = (h, g) := by
    unfold use
    rw [hn]
    rcases (by omega : h = 0 ∨ h = 1) with rfl | rfl
    · simp only [Nat.zero_mul, Nat.one_mul, Nat.sub_zero] at gh ho ⊢
      rw [gh, if_neg (by omega)]
    · simp only [Nat.sub_self, Nat.zero_mul, Nat.one_mul] at gh ho ⊢
      rw [gh, if_pos ho]
  have hr : recs s (h * (n / 2)) (n / 2) g = ts := by
    rw [recs, hbh, List.append_assoc, List.drop_left' (hd_len g)]
    exact scan_rcs ts (hm g) (n / 2) _ ht (by have := sns_len ts; omega)
  unfold opn
  rw [hn, if_neg (by omega), if_neg (by rw [hdn]; simp), hu]
  show (if g = 0 then _ else _) = _
  rw [if_neg (by omega)]
  show (cln s (h * (n / 2) + tkn 1 (recs s (h * (n / 2)) (n / 2) g)) (n / 2 - tkn 1 (recs s (h * (n / 2)) (n / 2) g)), (⟨h, g, recs s (h * (n / 2)) (n / 2) g⟩ : Lo)) = _
  rw [hr, tkn_sns, cln_none hdn hZ]
theorem opn_blank {n : Nat} (f : Nat → Bs) (hf : ∀ j, f j = zr 64) (hH : 2 ≤ n / 2) : opn (up n f []) = ((0, up n (bgf 0 (n / 2) (hd 1 ++ rcs (hm 1) []) f) []), ⟨0, 1, []⟩) := by
  have hz : ∀ k m, hb (up n f []) k m = zr (64 * m) := fun k m => hb_zero m k (fun i _ => hf _)
  have hu : use (up n f []) = (0, 0) := by
    unfold use
    show (if gen (hb (up n f []) 0 (n / 2)) < gen (hb (up n f []) (n / 2) (n / 2)) then _ else _) = _
    rw [hz, hz, gen_zr, if_neg (by omega)]
  unfold opn
  show (if n / 2 < 2 then _ else if false = true then _ else _) = _
  rw [if_neg (by omega), if_neg (by simp), hu, if_pos rfl]
  rw [bgn_u (n := n) (k := 0) (H := n / 2) f [] (by omega) (by rw [sns]; omega)]
  rfl
end Go.Proofs.Lg
namespace Go.Proofs.YtdcimnmebgkmjaaGreatDoor
open Go.RowKit Go.Proofs.Fd Go.Proofs.Dk Go.Proofs.Lg
set_option maxRecDepth 20000
structure Blk (w : World) (b : Nat) (cs : List Value) : Prop where
  r : w.rangeAt b 0 cs
  f : ∀ o, w.frozen? ⟨b, o, none⟩ = false
  n : cs ≠ []
theorem Blk.c {w : World} {b : Nat} {cs : List Value} (h : Blk w b cs) (j : Nat) (v : Value) (hv : cs[j]? = some v) : w.cell? ⟨b, j, none⟩ = some v := by
  have := h.r j v hv
  rw [Nat.zero_add] at this
  exact this
theorem Blk.lt {w : World} {b : Nat} {cs : List Value} (h : Blk w b cs) : b < w.heap.size := by
  obtain ⟨v, r, e⟩ := List.exists_cons_of_ne_nil h.n
  exact World.block_lt_of_cell? _ _ (h.c 0 v (by rw [e]; rfl))
theorem Blk.same {w w' : World} {b : Nat} {cs : List Value} (h : Blk w b cs) (hs : w'.heap[b]? = w.heap[b]?) : Blk w' b cs :=
  ⟨rangeAt_same h.r hs, fun o => (World.frozen?_of_block (a := ⟨b, o, none⟩) hs).trans (h.f o), h.n⟩
theorem Blk.below {w w' : World} {b B : Nat} {cs : List Value} (h : Blk w b cs) (hb : Below B w w') (hl : b < B) : Blk w' b cs := h.same (hb.block b hl)
theorem Blk.later {w w' : World} {b : Nat} {cs : List Value} (h : Blk w b cs) (hb : Below w.heap.size w w') : Blk w' b cs := h.same (hb.block b h.lt)
theorem Blk.bf {w w' : World} {b : Nat} {cs : List Value} (h : Blk w b cs) {F : Nat → Prop} (hb : Bf F w w') (hF : ¬ F b) : Blk w' b cs := h.same (hb.block b h.lt hF)
theorem Blk.new (w : World) (cs : List Value) (ty : TypeId) (hn : cs ≠ []) : Blk (w.alloc (.cells cs.toArray ty)) w.heap.size cs :=
  ⟨fun j v hv => by rw [Nat.zero_add, World.cell?_alloc_new]; simpa using hv, fun o => by simp [go_sem], hn⟩
theorem Blk.drew {w : World} {b : Nat} {cs : List Value} (h : Blk w b cs) : Blk w.drew b cs := ⟨by simpa using h.r, h.f, h.n⟩
theorem frozen_setCells (b : Nat) : ∀ (vs : List Value) (o : Nat) (w : World) (x : Addr), (w.setCells b o vs).frozen? x = w.frozen? x
  | [], _, _, _ => rfl
  | v :: vs, o, w, x => by rw [World.setCells, frozen_setCells b vs, World.frozen?_setCell]
theorem Blk.there {w : World} {b : Nat} {cs : List Value} (h : Blk w b cs) : w.there b 0 cs.length := fun j hj => ⟨h.r.isSome j hj, h.f _⟩
theorem Blk.put {w : World} {b : Nat} {cs : List Value} (h : Blk w b cs) (vs : List Value) (hl : vs.length = cs.length) : Blk (w.setCells b 0 vs) b vs :=
  ⟨World.rangeAt_setCells_same w b 0 vs (by rw [hl]; exact h.there), fun o => (frozen_setCells b vs 0 w _).trans (h.f o), fun e => h.n (by rw [e] at hl; exact List.length_eq_zero_iff.1 hl.symm)⟩
theorem Blk.set {w : World} {b : Nat} {cs : List Value} (h : Blk w b cs) (i : Nat) (hi : i < cs.length) (v : Value) : Blk (w.setCell ⟨b, i, none⟩ v) b (cs.set i v) := by
  refine ⟨fun j u hu => ?_, fun o => by rw [World.frozen?_setCell]; exact h.f o, by simpa using h.n⟩
  rw [Nat.zero_add]
  by_cases e : j = i
  · subst e
    rw [List.getElem?_set_self hi] at hu
    rw [World.cell?_setCell_same _ _ _ (by rw [h.c j _ (List.getElem?_eq_getElem hi)]), hu]
  · rw [List.getElem?_set_ne (Ne.symm e)] at hu
    rw [World.cell?_setCell_other _ _ _ _ (fun q => e (by injection q with q1 q2 q3; exact q2.symm)), h.c j u hu]
theorem below_sets {w : World} {B b : Nat} (hb : B ≤ b) : ∀ (vs : List Value) (o : Nat) {w' : World}, Below B w w' → Below B w (w'.setCells b o vs)
  | [], _, _, h => h
  | v :: vs, o, _, h => below_sets hb vs (o + 1) (h.setCell (p := ⟨b, o, none⟩) hb v)
theorem res_c1 {F : Func} {k : Nat} {T : TypeId} (hF : F.results = #[.cell k T]) (tmps : Array Value) (w : World) (b : Nat) (x : Value) (h0 : tmps.getD k undef = .pointer (some ⟨b, 0, none⟩))
    (l1 : (loadVar T ⟨b, 0, none⟩).run Tryz.prog w = .ok x w) : (results F tmps).run Tryz.prog w = .ok x w := by
  unfold results
  rw [hF]
  have h0' : tmps[k]?.getD undef = .pointer (some ⟨b, 0, none⟩) := by simpa using h0
  simp [h0', l1, asAddr]
theorem res_c2 {F : Func} {k j : Nat} {T : TypeId} (hF : F.results = #[.cell k T, .tmp j]) (tmps : Array Value) (w : World) (b : Nat) (x v : Value) (h0 : tmps.getD k undef = .pointer (some ⟨b, 0, none⟩)) (h1 : tmps.getD j undef = v)
    (l1 : (loadVar T ⟨b, 0, none⟩).run Tryz.prog w = .ok x w) : (results F tmps).run Tryz.prog w = .ok (.tuple #[x, v]) w := by
  unfold results
  rw [hF]
  have h0' : tmps[k]?.getD undef = .pointer (some ⟨b, 0, none⟩) := by simpa using h0
  have h1' : tmps[j]?.getD undef = v := by simpa using h1
  simp [h0', h1', l1, asAddr]
end Go.Proofs.YtdcimnmebgkmjaaGreatDoor
