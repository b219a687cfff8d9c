/- Parts: BxU, BxW. -/
import Derived.Test.YtjpaodepnacimaaGreatDoorZbG23
namespace Go.Proofs.Bx
open Go.Proofs.Dk Go.Proofs.Lg
def Up (n : Nat) (s : St) : Prop := ∃ f l, s = up n f l
structure Ua (n g : Nat) (y : (Int × St) × Lo) : Prop where
  e : y.1.1 = 0 ∨ y.1.1 = 151
  s : Up n y.1.2
  h : y.2.h ≤ 1
  g : y.2.g ≤ g
theorem half_in {n h k : Nat} (hh : h ≤ 1) (hk : k ≤ n / 2) : h * (n / 2) + k ≤ n := by
  have : h = 0 ∨ h = 1 := by omega
  rcases this with rfl | rfl <;> omega
theorem app_up {n : Nat} {s : St} (hs : Up n s) {x : Lo} (hh : x.h ≤ 1) {t : Bs} (ht : may t = 0) : Ua n x.g (app s x t) := by
  obtain ⟨f, l, rfl⟩ := hs
  unfold app
  rw [if_neg (by rw [ht]; decide)]
  by_cases c : (up n f l).n / 2 < x.tk + sn t
  · rw [if_pos c]
    exact ⟨Or.inr rfl, ⟨f, l, rfl⟩, hh, Nat.le_refl _⟩
  · rw [if_neg c]
    have c2 : x.tk + sn t ≤ n / 2 := Nat.le_of_not_lt c
    have z := wrb_u (rcd_len x.mr t) (n := n) (k := x.h * (n / 2) + x.tk) (by have := half_in (n := n) hh c2; omega) f l
    have e1 : (wrb (up n f l) (x.h * ((up n f l).n / 2) + x.tk) (rcd x.mr t)) = (0, up n f (l ++ wts (x.h * (n / 2) + x.tk) (chs (sn t) (rcd x.mr t)))) := z
    simp only [e1]
    exact ⟨Or.inl rfl, ⟨_, _, rfl⟩, hh, Nat.le_refl _⟩
theorem mays_zero : ∀ {l : List Bs}, (∀ t ∈ l, may t = 0) → mays l = 0
  | [], _ => rfl
  | t :: l, h => by
    rw [mays, if_neg (by rw [h t (List.mem_cons_self ..)]; decide)]
    exact mays_zero fun x hx => h x (List.mem_cons_of_mem _ hx)
theorem cmp_up {n : Nat} {s : St} (hs : Up n s) {x : Lo} (hn : 4 ≤ n) (hh : x.h ≤ 1) (hg : x.g < 2147483647) {ts : List Bs} (ht : ∀ t ∈ ts, may t = 0) : Ua n (x.g + 1) (cmp s x ts) := by
  obtain ⟨f, l, rfl⟩ := hs
  unfold cmp
  rw [if_neg (by rw [mays_zero ht]; decide)]
  by_cases c : (up n f l).n / 2 - 1 < sns ts
  · rw [if_pos c]
    exact ⟨Or.inr rfl, ⟨f, l, rfl⟩, hh, Nat.le_succ _⟩
  · have c2 : sns ts ≤ n / 2 - 1 := Nat.le_of_not_lt c
    rw [if_neg c, if_neg (by omega)]
    have z := bgn_u (n := n) (k := (1 - x.h) * (n / 2)) (H := n / 2) (g := x.g + 1) (ts := ts) f l (half_in (by omega) (Nat.le_refl _)) (by omega)
    have e1 : bgn (up n f l) ((1 - x.h) * ((up n f l).n / 2)) ((up n f l).n / 2) (x.g + 1) ts = _ := z
    simp only [e1]
    exact ⟨Or.inl rfl, ⟨_, _, rfl⟩, Nat.sub_le _ _, Nat.le_refl _⟩
theorem apX_up : ∀ (rs : List Bs) {n : Nat} {s : St} {x : Lo}, Up n s → x.h ≤ 1 → (∀ t ∈ rs, may t = 0) → Ua n x.g (apX s x rs)
  | [], n, s, x, hs, hh, _ => ⟨Or.inl rfl, hs, hh, Nat.le_refl _⟩
  | r :: l, n, s, x, hs, hh, ht => by
    have a := app_up hs hh (ht r (List.mem_cons_self ..))
    rw [apX]
    by_cases c : (app s x r).1.1 = 0
    · rw [if_pos c]
      have z := apX_up l a.s a.h (fun t h => ht t (List.mem_cons_of_mem _ h))
      exact ⟨z.e, z.s, z.h, Nat.le_trans z.g a.g⟩
    · rw [if_neg c]
      exact a
theorem sync_up {n : Nat} {s : St} (hs : Up n s) : syE s = 0 ∧ Up n (syS s) := by
  obtain ⟨f, l, rfl⟩ := hs
  exact ⟨(sy_u n f l).1, _, _, (sy_u n f l).2⟩
theorem may_fit {t : Bs} (h : 18 ≤ t.length ∧ t.length ≤ 240) : may t = 0 := by
  unfold may
  rw [if_neg (by omega), if_neg (by omega)]
theorem sh_fit {b : Bxs} (g : Gx b) : ∀ t ∈ shX b, 18 ≤ t.length ∧ t.length ≤ 240 := by
  intro t ht
  obtain ⟨u, -, hu⟩ := List.mem_flatMap.1 ht
  obtain ⟨e, he, rfl⟩ := List.mem_map.1 hu
  have z := g.i u e he
  have hi := okI_len z.1
  show 18 ≤ (e.1 ++ e.2).length + 1 + 1 ∧ (e.1 ++ e.2).length + 1 + 1 ≤ 240
  rw [List.length_append]
  omega
theorem wrX_up {n : Nat} {s : St} (hs : Up n s) {x : Lo} (hn : 4 ≤ n) (hh : x.h ≤ 1) (hg : x.g < 2147483647) {b c : Bxs} (gc : Gx c) {rs : List Bs} (ht : ∀ t ∈ rs, may t = 0) :
    Ua n (x.g + 1) (wrX s x b c rs).1 ∧ ((wrX s x b c rs).1.1.1 = 0 → (wrX s x b c rs).2 = c) ∧ ((wrX s x b c rs).1.1.1 = 151 → (wrX s x b c rs).2 = b) := by
  have a := apX_up rs hs hh ht
  unfold wrX
  by_cases c1 : (apX s x rs).1.1 = 151
  · simp only [if_pos c1]
    have z := cmp_up a.s hn a.h (Nat.lt_of_le_of_lt a.g hg) (fun t h => may_fit (sh_fit gc t h))
    refine ⟨⟨z.e, z.s, z.h, Nat.le_trans z.g (Nat.succ_le_succ a.g)⟩, fun e => if_pos e, fun e => if_neg (by rw [e]; decide)⟩
  · simp only [if_neg c1]
    have c2 : (apX s x rs).1.1 = 0 := a.e.resolve_right c1
    have y := sync_up a.s
    rw [if_neg (by rw [c2]; decide)]
    exact ⟨⟨Or.inl y.1, y.2, a.h, Nat.le_trans a.g (Nat.le_succ _)⟩, fun _ => if_pos y.1, fun e => absurd (y.1.symm.trans e) (by decide)⟩
theorem putR_may {u : Nat} {i t : Bs} (hi : i.length = 16) (ht : t.length ≤ 222) : may (putR u i t) = 0 := by
  refine may_fit ?_
  show 18 ≤ (i ++ t).length + 1 + 1 ∧ (i ++ t).length + 1 + 1 ≤ 240
  rw [List.length_append]
  omega
theorem ackR_may {u : Nat} {i : Bs} (hi : i.length = 16) : may (ackR u i) = 0 := by
  refine may_fit ?_
  show 18 ≤ i.length + 1 + 1 ∧ i.length + 1 + 1 ≤ 240
  omega
theorem puX_up {n q : Nat} {s : St} (hs : Up n s) {x : Lo} (hn : 4 ≤ n) (hh : x.h ≤ 1) (hg : x.g < 2147483647) {b : Bxs} (gb : Gx b) {u : Int} (hu : noU u = false) {i t : Bs} (hi : okI i = true) (ht : t.length ≤ 222) (hx : i ∉ ids (b u.toNat)) (hq : (b u.toNat).length < q) :
    Ua n (x.g + 1) (puX q s x b u i t).1 ∧ ((puX q s x b u i t).1.1.1 = 0 → (puX q s x b u i t).2 = upB b u.toNat (b u.toNat ++ [(i, t)])) := by
  have hu2 : u.toNat < 64 := by
    unfold noU at hu
    simp at hu
    omega
  unfold puX
  rw [if_neg (by rw [hu]; decide), if_neg (by rw [hi]; decide), if_neg (by omega), if_neg hx, if_neg (by omega)]
  have z := wrX_up hs hn hh hg (b := b) (gb.put hu2 hi ht hx) (rs := [putR u.toNat i t]) (fun r hr => by rw [List.mem_singleton.1 hr]; exact putR_may (okI_len hi) ht)
  exact ⟨z.1, z.2.1⟩
theorem Gx.rms : ∀ (m : List Bs) {b : Bxs}, Gx b → ∀ (u : Nat), Gx (upB b u (Bx.rms (b u) m))
  | [], b, h, u => by rw [Bx.rms, upB_self]; exact h
  | i :: m, b, h, u => by
    have z := Gx.rms m (h.rm u i) u
    rw [upB_same, upB_upB] at z
    exact z
theorem aks_mem : ∀ (m : List Bs) (l : List Sl), ∀ i ∈ aks l m, i ∈ m
  | [], _, _, h => h
  | a :: m, l, i, h => by
    rw [aks] at h
    by_cases c : a ∈ ids l
    · rw [if_pos c] at h
      rcases List.mem_cons.1 h with h | h
      · rw [h]; exact List.mem_cons_self ..
      · exact List.mem_cons_of_mem _ (aks_mem m _ i h)
    · rw [if_neg c] at h
      exact List.mem_cons_of_mem _ (aks_mem m _ i h)
theorem akX_up {n : Nat} {s : St} (hs : Up n s) {x : Lo} (hn : 4 ≤ n) (hh : x.h ≤ 1) (hg : x.g < 2147483647) {b : Bxs} (gb : Gx b) {u : Int} (hu : noU u = false) {m : List Bs} (hm : ∀ i ∈ m, okI i = true) (hl : m.length ≤ 256) :
    Ua n (x.g + 1) (akX s x b u m).2.1 ∧ ((akX s x b u m).2.1.1.1 = 0 → (akX s x b u m).2.2 = upB b u.toNat (rms (b u.toNat) m)) := by
  unfold akX
  rw [if_neg (by rw [hu]; decide), if_neg (by
    intro c
    obtain ⟨i, h1, h2⟩ := List.any_eq_true.1 c
    rw [hm i h1] at h2
    cases h2), if_neg (by omega)]
  by_cases c : aks (b u.toNat) m = []
  · rw [if_pos c]
    refine ⟨⟨Or.inl rfl, hs, hh, Nat.le_succ _⟩, fun _ => ?_⟩
    have z := rms_aks m (b u.toNat)
    rw [c, Bx.rms] at z
    rw [← z, upB_self]
  · rw [if_neg c]
    have z := wrX_up hs hn hh hg (b := b) (gb.rms m u.toNat) (rs := (aks (b u.toNat) m).map (ackR u.toNat)) (fun r hr => by
      obtain ⟨i, h1, rfl⟩ := List.mem_map.1 hr
      exact ackR_may (okI_len (hm i (aks_mem m _ i h1))))
    exact ⟨z.1, z.2.1⟩
end Go.Proofs.Bx
namespace Go.Proofs.Bx
open Go.Proofs.Dk Go.Proofs.Lg
theorem app_ok {n : Nat} {s : St} (hs : Up n s) {x : Lo} (hh : x.h ≤ 1) {t : Bs} (ht : may t = 0) (hr : x.tk + sn t ≤ n / 2) : (app s x t).1.1 = 0 ∧ Up n (app s x t).1.2 ∧ (app s x t).2 = ⟨x.h, x.g, x.ts ++ [t]⟩ := by
  obtain ⟨f, l, rfl⟩ := hs
  unfold app
  have z := wrb_u (rcd_len x.mr t) (n := n) (k := x.h * (n / 2) + x.tk) (by have := half_in (n := n) hh hr; omega) f l
  have e1 : (wrb (up n f l) (x.h * ((up n f l).n / 2) + x.tk) (rcd x.mr t)) = (0, up n f (l ++ wts (x.h * (n / 2) + x.tk) (chs (sn t) (rcd x.mr t)))) := z
  rw [if_neg (by rw [ht]; decide), if_neg (show ¬ (up n f l).n / 2 < x.tk + sn t from Nat.not_lt.2 hr)]
  simp only [e1]
  exact ⟨by first | rfl | trivial, ⟨_, _, rfl⟩, by first | rfl | trivial⟩
theorem wrX_ok {n : Nat} {s : St} (hs : Up n s) {x : Lo} (hh : x.h ≤ 1) {r : Bs} (ht : may r = 0) (hr : x.tk + sn r ≤ n / 2) (b c : Bxs) : (wrX s x b c [r]).1.1.1 = 0 ∧ Up n (wrX s x b c [r]).1.1.2 ∧ (wrX s x b c [r]).1.2 = ⟨x.h, x.g, x.ts ++ [r]⟩ ∧ (wrX s x b c [r]).2 = c := by
  obtain ⟨a1, a2, a3⟩ := app_ok hs hh ht hr
  have e : apX s x [r] = ((0, (app s x r).1.2), ⟨x.h, x.g, x.ts ++ [r]⟩) := by
    rw [apX, if_pos a1, apX, a3]
  have y := sync_up a2
  unfold wrX
  rw [e]
  rw [if_neg (show ¬ (0 : Int) = 151 by decide), if_neg (show ¬ (0 : Int) ≠ 0 by decide)]
  exact ⟨y.1, y.2, rfl, if_pos y.1⟩
theorem sn_small {r : Bs} (h : r.length ≤ 46) : sn r = 1 := by
  unfold sn
  omega
theorem rms_one {l : List Sl} (h : (ids l).Nodup) (i : Bs) : rms l [i] = l.filter fun e => !decide (e.1 = i) := by
  rw [rms, rms, rmL_filter l i h]
end Go.Proofs.Bx
