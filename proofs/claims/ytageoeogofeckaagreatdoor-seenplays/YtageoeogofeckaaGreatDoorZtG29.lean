/- Parts: SrH, SrI, SzA, SzB. -/
import Derived.Test.YtageoeogofeckaaGreatDoorZtG28
namespace Go.Proofs.YtageoeogofeckaaGreatDoor
open Go.RowKit Go.Proofs.Fd Go.Proofs.Dk Go.Proofs.Lg
set_option maxRecDepth 20000
abbrev Ey := Nat × List Bs × List Bs
structure Gd (y : Ey) : Prop where
  e : y.1 ≤ 2147483647
  z : y.1 = 0 → y.2.1 = []
  t : ∀ t ∈ y.2.1 ++ y.2.2, t.length = 16
  n : y.2.1.length + y.2.2.length ≤ 10000
def adp (most : Nat) (s : St) (x : Lo) (y : Ey) (t : Bs) : ((Int × St) × Lo) × Ey :=
  if t.length ≠ 16 then (((3, s), x), y)
  else if t ∈ y.2.1 ++ y.2.2 then (((170, s), x), y)
  else if most ≤ y.2.1.length + y.2.2.length then (((180, s), x), y)
  else (wrp s x (sht y.1 y.2.1 y.2.2) (84 :: t), if (wrp s x (sht y.1 y.2.1 y.2.2) (84 :: t)).1.1 = 0 then (y.1, y.2.1, y.2.2 ++ [t]) else y)
def rop (s : St) (x : Lo) (y : Ey) : ((Int × St) × Lo) × Ey :=
  if 2147483647 ≤ y.1 then (((1, s), x), y)
  else (wrp s x (sht y.1 y.2.1 y.2.2) (69 :: ben (y.1 + 1) 4), if (wrp s x (sht y.1 y.2.1 y.2.2) (69 :: ben (y.1 + 1) 4)).1.1 = 0 then (y.1 + 1, y.2.2, []) else y)
abbrev RzY (w : World) (F : Nat → Prop) (d q b most : Nat) (s : St) (x : Lo) (y : Ey) (w' : World) : Prop := RzP w F d q b most s x y.1 y.2.1 y.2.2 w'
theorem rzhas_any (w : World) (F : Nat → Prop) (d q b most : Nat) (s : St) (x : Lo) (y : Ey) (hy : Gd y) (X : ByteArray) (w1 : World) (k : RzY w F d q b most s x y w1) :
    Calls Tryz.prog 28 #[.pointer (some ⟨b, 0, none⟩), .string X] w1 fun e w' => e = .returned (.bool (decide (X.data.toList ∈ y.2.1 ++ y.2.2))) ∧ w' = w1 := by
  obtain ⟨G, v, u, z, -, -⟩ := k
  have := rshas_any b q most y.1 u _ (by rw [hads_len]; have := hy.n; omega) X w1 z.rs
  rw [hads_fst] at this
  exact this
set_option maxHeartbeats 2000000 in
theorem rzadd_any (w : World) (F : Nat → Prop) (d q b most : Nat) (hmost : most ≤ 4096) (s : St) (x : Lo) (y : Ey) (hy : Gd y) (hdn : s.down = false) (hl : s.l.length + 6000 ≤ 1000000) (X : ByteArray) (w1 : World) (k : Hid (RzY w F d q b most s x y w1)) :
    Calls Tryz.prog 26 #[.pointer (some ⟨b, 0, none⟩), .string X] w1 fun e w' => e = .returned (.int .i64 (adp most s x y X.data.toList).1.1.1) ∧ RzY w F d q b most (adp most s x y X.data.toList).1.1.2 (adp most s x y X.data.toList).1.2 (adp most s x y X.data.toList).2 w' := by
  have HS : Hid _ := rzhas_any w F d q b most s x y hy X w1 k.out
  have hXs : X.data.toList.length = X.size := by simp
  obtain ⟨t, ht⟩ : ∃ t, X.data.toList = t := ⟨_, rfl⟩
  have hX : Hid (X = st t) := by show X = st t; rw [← ht]; rfl
  rw [ht] at HS hXs ⊢
  clear ht
  obtain ⟨r, hr⟩ : ∃ r, adp most s x y t = r := ⟨_, rfl⟩
  rw [hr]
  unfold adp at hr
  by_cases h16 : t.length ≠ 16
  · rw [if_pos h16] at hr
    have g1 : ¬ (X.size : Int) = 16 := by omega
    have FF : Hid (r.1.1.1 = 3 ∧ RzY w F d q b most r.1.1.2 r.1.2 r.2 w1) := by rw [← hr]; exact ⟨rfl, k.out⟩
    clear hr k HS hX hXs h16
    go_enter Tryz.func26, Tryz.ntmps26
    go_wp2
    go_ret
    exact ⟨by rw [FF.out.1]; rfl, FF.out.2⟩
  · rw [if_neg h16] at hr
    have hX16 : X.size = 16 := by omega
    by_cases hm : t ∈ y.2.1 ++ y.2.2
    · rw [if_pos hm] at hr
      rw [decide_eq_true hm] at HS
      have FF : Hid (r.1.1.1 = 170 ∧ RzY w F d q b most r.1.1.2 r.1.2 r.2 w1) := by rw [← hr]; exact ⟨rfl, k.out⟩
      clear hr k hX hXs h16 hm
      go_enter Tryz.func26, Tryz.ntmps26
      go_wp2_with fail
      refine Calls.mono HS.out ?_
      rintro e w2 ⟨rfl, rfl⟩
      go_wp2
      go_ret
      exact ⟨by rw [FF.out.1]; rfl, FF.out.2⟩
    · rw [if_neg hm] at hr
      rw [decide_eq_false hm] at HS
      have KK : w1.cell? ⟨b, 1, none⟩ = some (.int .i64 (most : Int)) ∧ ∃ va vc, w1.cell? ⟨b, 3, none⟩ = some (.slice va (y.2.1.length + y.2.2.length) vc) := by
        obtain ⟨G, v, u, z, -, -⟩ := k.out
        obtain ⟨va, vc, rfl⟩ := ownsH_slice z.rs.row
        have := z.rs.bk.c 3 _ rfl
        rw [hads_len] at this
        exact ⟨z.rs.bk.c 1 _ rfl, va, vc, this⟩
      obtain ⟨k1, va, vc, k3⟩ := KK
      have hyn := hy.n
      by_cases hf : most ≤ y.2.1.length + y.2.2.length
      · rw [if_pos hf] at hr
        have FF : Hid (r.1.1.1 = 180 ∧ RzY w F d q b most r.1.1.2 r.1.2 r.2 w1.drew) := by rw [← hr]; exact ⟨rfl, RzP.later k.out (Below.refl _ _).drew⟩
        obtain ⟨m, hmm⟩ : ∃ m, y.2.1.length + y.2.2.length = m := ⟨_, rfl⟩
        rw [hmm] at k3 hf
        have g1 : (most : Int) ≤ (m : Int) := by omega
        clear hr k hX hXs h16 hm hmm hyn
        go_enter Tryz.func26, Tryz.ntmps26
        go_wp2_with fail
        refine Calls.mono HS.out ?_
        rintro e w2 ⟨rfl, rfl⟩
        clear HS
        go_wp2_with fail
        go_region_held3 (fun w' => w'.cell? ⟨b, 1, none⟩ = some (.int .i64 (most : Int)) ∧ w'.cell? ⟨b, 3, none⟩ = some (.slice va m vc)) (first | exact ⟨k1, k3⟩ | assumption) (fail)
        go_wp2
        go_ret
        exact ⟨by rw [FF.out.1]; rfl, FF.out.2⟩
      · rw [if_neg hf] at hr
        have WR : Hid _ := rswrite_any w F d q b most s x y.1 y.2.1 y.2.2 (84 :: t) (by omega) (by omega) (by have := hy.e; omega) hy.z (fun u hu => by have := hy.t u hu; omega) hdn hl w1.drew (RzP.later k.out (Below.refl _ _).drew)
        obtain ⟨⟨⟨ye, ys⟩, yx⟩, hw⟩ : ∃ z, wrp s x (sht y.1 y.2.1 y.2.2) (84 :: t) = z := ⟨_, rfl⟩
        rw [hw] at hr WR
        have ADD : Hid (∀ W, ye = 0 → RzY w F d q b most ys yx y W → Calls Tryz.prog 47 #[.pointer (some ⟨b, 0, none⟩), .string X] W fun e w' => e = .returned (.tuple #[]) ∧ RzY w F d q b most r.1.1.2 r.1.2 r.2 w') := fun W h0 ⟨G, v, u, z, n, f⟩ => by
          have := rsadd_any b q most y.1 u y.2.1 y.2.2 (by omega) t W z.rs
          rw [if_neg hm] at this
          rw [hX.out]
          refine this.mono fun e w' ⟨e1, e2⟩ => ⟨e1, ?_⟩
          rw [← hr]
          show RzP w F d q b most ys yx (if ye = 0 then _ else _ : Ey).1 (if ye = 0 then _ else _ : Ey).2.1 (if ye = 0 then _ else _ : Ey).2.2 w'
          rw [if_pos h0]
          exact z.set e2 n f
        have FNO : Hid (∀ W, ye ≠ 0 → RzY w F d q b most ys yx y W → r.1.1.1 = ye ∧ RzY w F d q b most r.1.1.2 r.1.2 r.2 W) := fun W h0 z => by
          rw [← hr]
          refine ⟨rfl, ?_⟩
          show RzP w F d q b most ys yx (if ye = 0 then _ else _ : Ey).1 (if ye = 0 then _ else _ : Ey).2.1 (if ye = 0 then _ else _ : Ey).2.2 W
          rw [if_neg h0]
          exact z
        have FOK : Hid (ye = 0 → r.1.1.1 = 0) := fun h0 => by rw [← hr]; exact h0
        have HP : Hid ((⟨#[84]⟩ : ByteArray) ++ X = st (84 :: t)) := by show _ = _; rw [hX.out]; exact st_app [84] t
        rw [← HP.out] at WR
        obtain ⟨m, hmm⟩ : ∃ m, y.2.1.length + y.2.2.length = m := ⟨_, rfl⟩
        rw [hmm] at k3 hf
        have g1 : ¬ (most : Int) ≤ (m : Int) := by omega
        have h63 : ¬ 9223372036854775807 < 1 + X.size := by omega
        clear hr k hX hXs h16 hm hmm hyn hw HP
        go_enter Tryz.func26, Tryz.ntmps26
        go_wp2_with fail
        refine Calls.mono HS.out ?_
        rintro e w2 ⟨rfl, rfl⟩
        clear HS
        go_wp2_with fail
        go_region_held3 (fun w' => w'.cell? ⟨b, 1, none⟩ = some (.int .i64 (most : Int)) ∧ w'.cell? ⟨b, 3, none⟩ = some (.slice va m vc)) (first | exact ⟨k1, k3⟩ | assumption) (fail)
        clear k1 k3
        go_wp2_with fail
        refine Calls.mono WR.out ?_
        rintro e w3 ⟨rfl, z3⟩
        have J3 : Hid _ := z3
        clear z3 WR
        by_cases h0 : ye = 0
        · have A3 : Hid _ := ADD.out w3 h0 J3.out
          have F0 : Hid _ := FOK.out h0
          subst h0
          clear ADD FNO FOK J3
          go_wp2_with fail
          refine Calls.mono A3.out ?_
          rintro e w4 ⟨rfl, z4⟩
          have FF : Hid _ := z4
          clear z4 A3
          go_wp2
          go_ret
          exact ⟨by rw [F0.out]; rfl, FF.out⟩
        · have FF : Hid _ := FNO.out w3 h0 J3.out
          clear ADD FNO FOK J3
          go_wp2
          go_ret
          exact ⟨by rw [FF.out.1]; rfl, FF.out.2⟩
set_option maxHeartbeats 2000000 in
theorem rzrot_any (w : World) (F : Nat → Prop) (d q b most : Nat) (s : St) (x : Lo) (y : Ey) (hy : Gd y) (hdn : s.down = false) (hl : s.l.length + 6000 ≤ 1000000) (w1 : World) (k : Hid (RzY w F d q b most s x y w1)) :
    Calls Tryz.prog 27 #[.pointer (some ⟨b, 0, none⟩)] w1 fun e w' => e = .returned (.int .i64 (rop s x y).1.1.1) ∧ RzY w F d q b most (rop s x y).1.1.2 (rop s x y).1.2 (rop s x y).2 w' := by
  have hyn := hy.n
  have hye := hy.e
  have K2 : Hid (∀ W s x, RzY w F d q b most s x y W → W.cell? ⟨b, 2, none⟩ = some (.int .i64 (y.1 : Int))) := fun W s x ⟨G, v, u, z, _, _⟩ => z.rs.bk.c 2 _ rfl
  have k2 := K2.out w1 s x k.out
  obtain ⟨r, hr⟩ : ∃ r, rop s x y = r := ⟨_, rfl⟩
  rw [hr]
  unfold rop at hr
  by_cases hm : 2147483647 ≤ y.1
  · rw [if_pos hm] at hr
    have FF : Hid (r.1.1.1 = 1 ∧ RzY w F d q b most r.1.1.2 r.1.2 r.2 w1) := by rw [← hr]; exact ⟨rfl, k.out⟩
    obtain ⟨ep, hep⟩ : ∃ e : Int, (y.1 : Int) = e := ⟨_, rfl⟩
    have g1 : (2147483647 : Int) ≤ ep := by omega
    rw [hep] at k2
    clear hr k hm hep K2 hye hyn
    go_enter Tryz.func27, Tryz.ntmps27
    go_wp2
    go_ret
    exact ⟨by rw [FF.out.1]; rfl, FF.out.2⟩
  · rw [if_neg hm] at hr
    have EP : Hid (Calls Tryz.prog 48 #[.int .i64 ((y.1 : Int) + 1)] w1 fun e w' => e = .returned (.string (st (69 :: ben (y.1 + 1) 4))) ∧ Below w1.heap.size w1 w') := repoch_any (y.1 + 1) w1
    have WR : Hid (∀ W, Below w1.heap.size w1 W → _) := fun W (hb : Below w1.heap.size w1 W) => rswrite_any w F d q b most s x y.1 y.2.1 y.2.2 (69 :: ben (y.1 + 1) 4) (by omega) (by omega) (by omega) hy.z (fun u hu => by have := hy.t u hu; omega) hdn hl W (RzP.later k.out hb)
    obtain ⟨⟨⟨ye, ys⟩, yx⟩, hw⟩ : ∃ z, wrp s x (sht y.1 y.2.1 y.2.2) (69 :: ben (y.1 + 1) 4) = z := ⟨_, rfl⟩
    rw [hw] at hr WR
    have ENT : Hid (∀ W, ye = 0 → RzY w F d q b most ys yx y W → Calls Tryz.prog 49 #[.pointer (some ⟨b, 0, none⟩), .int .i64 ((y.1 : Int) + 1)] W fun e w' => e = .returned (.tuple #[]) ∧ RzY w F d q b most r.1.1.2 r.1.2 r.2 w') := fun W h0 ⟨G, v, u, z, n, f⟩ => by
      have := rsenter_any b q most y.1 (y.1 + 1) u _ (by rw [hads_len]; omega) (by omega) W z.rs
      rw [hads_enter y.1 y.2.1 y.2.2 (y.1 + 1) (by omega)] at this
      have et : tun y.1 y.2.1 y.2.2 (y.1 + 1) = (y.2.2, []) := by rw [tun, if_neg (by omega), if_pos rfl]
      rw [et] at this
      refine this.mono fun e w' ⟨e1, v', z1, z2, z3⟩ => ⟨e1, ?_⟩
      rw [← hr]
      show RzP w F d q b most ys yx (if ye = 0 then _ else _ : Ey).1 (if ye = 0 then _ else _ : Ey).2.1 (if ye = 0 then _ else _ : Ey).2.2 w'
      rw [if_pos h0]
      exact z.set (y := (y.1 + 1, y.2.2, [])) ⟨v', z1, z2, z3⟩ n f
    have FNO : Hid (∀ W, ye ≠ 0 → RzY w F d q b most ys yx y W → r.1.1.1 = ye ∧ RzY w F d q b most r.1.1.2 r.1.2 r.2 W) := fun W h0 z => by
      rw [← hr]
      refine ⟨rfl, ?_⟩
      show RzP w F d q b most ys yx (if ye = 0 then _ else _ : Ey).1 (if ye = 0 then _ else _ : Ey).2.1 (if ye = 0 then _ else _ : Ey).2.2 W
      rw [if_neg h0]
      exact z
    have FOK : Hid (ye = 0 → r.1.1.1 = 0) := fun h0 => by rw [← hr]; exact h0
    obtain ⟨ep, hep⟩ : ∃ e : Int, (y.1 : Int) = e := ⟨_, rfl⟩
    have g1 : ¬ (2147483647 : Int) ≤ ep := by omega
    have y1 : IntKind.i64.wrap (ep + 1) = ep + 1 := by rw [IntKind.wrap_i64]; omega
    rw [hep] at k2 EP ENT K2
    obtain ⟨E, hE⟩ : ∃ E, st (69 :: ben (y.1 + 1) 4) = E := ⟨_, rfl⟩
    rw [hE] at EP WR
    clear hr k hm hep hw hE hye hyn
    go_enter Tryz.func27, Tryz.ntmps27
    go_wp2_with fail
    refine Calls.mono EP.out ?_
    rintro e w2 ⟨rfl, hb2⟩
    have W2 : Hid _ := WR.out w2 hb2
    clear WR EP hb2
    go_wp2_with fail
    refine Calls.mono W2.out ?_
    rintro e w3 ⟨rfl, z3⟩
    have J3 : Hid _ := z3
    clear z3 W2 k2
    by_cases h0 : ye = 0
    · have A3 : Hid _ := ENT.out w3 h0 J3.out
      have F0 : Hid _ := FOK.out h0
      have k3 := K2.out w3 ys yx J3.out
      subst h0
      clear ENT FNO FOK J3 K2
      go_wp2_with fail
      refine Calls.mono A3.out ?_
      rintro e w4 ⟨rfl, z4⟩
      have FF : Hid _ := z4
      clear z4 A3 k3
      go_wp2
      go_ret
      exact ⟨by rw [F0.out]; rfl, FF.out⟩
    · have FF : Hid _ := FNO.out w3 h0 J3.out
      clear ENT FNO FOK J3 K2
      go_wp2
      go_ret
      exact ⟨by rw [FF.out.1]; rfl, FF.out.2⟩
end Go.Proofs.YtageoeogofeckaaGreatDoor
namespace Go.Proofs.YtageoeogofeckaaGreatDoor
open Go.RowKit Go.Proofs.Fd Go.Proofs.Dk Go.Proofs.Lg
set_option maxRecDepth 20000
def tkE (y : Ey) (r : Bs) : Option Ey := tkp y.1 y.2.1 y.2.2 r
def tks : Ey → List Bs → Option Ey
  | y, [] => some y
  | y, r :: l => (tkE y r).bind fun z => tks z l
theorem tks_app : ∀ (l : List Bs) (y : Ey) (r : Bs), tks y (l ++ [r]) = (tks y l).bind fun z => tkE z r
  | [], y, r => by
    show (tkE y r).bind (fun z => some z) = tkE y r
    cases tkE y r <;> rfl
  | a :: l, y, r => by
    show (tkE y a).bind (fun z => tks z (l ++ [r])) = ((tkE y a).bind fun z => tks z l).bind fun z => tkE z r
    cases tkE y a with
    | none => rfl
    | some z => exact tks_app l z r
theorem tks_no {y : Ey} {l m : List Bs} (h : tks y l = none) : tks y (l ++ m) = none := by
  induction l generalizing y with
  | nil => cases h
  | cons a l ih =>
    have h' : (tkE y a).bind (fun z => tks z l) = none := h
    show (tkE y a).bind (fun z => tks z (l ++ m)) = none
    cases e : tkE y a with
    | none => rfl
    | some z =>
      rw [e] at h'
      exact ih h'
structure Gn (n : Nat) (y : Ey) : Prop where
  e : y.1 ≤ 2147483647
  z : y.1 = 0 → y.2.1 = []
  t : ∀ t ∈ y.2.1 ++ y.2.2, t.length = 16
  n : y.2.1.length + y.2.2.length ≤ n
theorem tkE_gn {n : Nat} {y z : Ey} {r : Bs} (g : Gn n y) (h : tkE y r = some z) : Gn (n + 1) z := by
  unfold tkE tkp at h
  by_cases h1 : r.length = 17 ∧ r.head? = some 84
  · rw [if_pos h1] at h
    injection h with h
    subst h
    have gn := g.n
    by_cases hm : r.tail ∈ y.2.1 ++ y.2.2
    · refine ⟨g.e, g.z, ?_, ?_⟩
      · show ∀ t ∈ y.2.1 ++ (if r.tail ∈ y.2.1 ++ y.2.2 then _ else _), _
        rw [if_pos hm]; exact g.t
      · show y.2.1.length + (if r.tail ∈ y.2.1 ++ y.2.2 then _ else _ : List Bs).length ≤ _
        rw [if_pos hm]; omega
    · refine ⟨g.e, g.z, ?_, ?_⟩
      · show ∀ t ∈ y.2.1 ++ (if r.tail ∈ y.2.1 ++ y.2.2 then _ else _), _
        rw [if_neg hm, ← List.append_assoc]
        intro t ht
        rcases List.mem_append.1 ht with ht | ht
        · exact g.t t ht
        · rw [List.mem_singleton] at ht
          subst ht
          rw [List.length_tail, h1.1]
      · show y.2.1.length + (if r.tail ∈ y.2.1 ++ y.2.2 then _ else _ : List Bs).length ≤ _
        rw [if_neg hm, List.length_append, List.length_singleton]; omega
  · rw [if_neg h1] at h
    by_cases h2 : r.length = 5 ∧ r.head? = some 69
    · rw [if_pos h2] at h
      by_cases h3 : nm r.tail < y.1 ∨ 2147483647 < nm r.tail
      · rw [if_pos h3] at h; cases h
      · rw [if_neg h3] at h
        injection h with h
        subst h
        have gn := g.n
        unfold tun
        by_cases e1 : nm r.tail = y.1
        · rw [if_pos e1]
          exact ⟨by show nm r.tail ≤ _; omega, fun e => g.z (e1.symm.trans e), g.t, by show y.2.1.length + y.2.2.length ≤ _; omega⟩
        · rw [if_neg e1]
          by_cases e2 : nm r.tail = y.1 + 1
          · rw [if_pos e2]
            exact ⟨by show nm r.tail ≤ _; omega, fun e => absurd (show nm r.tail = 0 from e) (by omega), fun t ht => g.t t (List.mem_append_right _ (by simpa using ht)), by show y.2.2.length + 0 ≤ _; omega⟩
          · rw [if_neg e2]
            exact ⟨by show nm r.tail ≤ _; omega, fun _ => rfl, (fun t ht => absurd ht List.not_mem_nil), by show 0 + 0 ≤ _; omega⟩
    · rw [if_neg h2] at h; cases h
theorem Gn.start : Gn 0 (0, [], []) := ⟨by decide, fun _ => rfl, (fun t ht => absurd ht List.not_mem_nil), Nat.le_refl _⟩
theorem Gn.gd {n : Nat} {y : Ey} (g : Gn n y) (h : n ≤ 10000) : Gd y := ⟨g.e, g.z, g.t, Nat.le_trans g.n h⟩
theorem tks_gn : ∀ (l : List Bs) (n : Nat) (y z : Ey), Gn n y → tks y l = some z → Gn (n + l.length) z
  | [], n, y, z, g, h => by
    have e : some y = some z := h
    injection e with e
    subst e
    exact g
  | a :: l, n, y, z, g, h => by
    have h' : (tkE y a).bind (fun z => tks z l) = some z := h
    cases e : tkE y a with
    | none => rw [e] at h'; cases h'
    | some x =>
      rw [e] at h'
      have := tks_gn l (n + 1) x z (tkE_gn g e) h'
      rw [List.length_cons, show n + (l.length + 1) = n + 1 + l.length by omega]
      exact this
def opz (most : Int) (s : St) (o : (Int × St) × Lo) : (Int × St) × Option (Lo × Ey) :=
  if most < 1 ∨ 4096 < most then ((1, s), none)
  else if o.1.1 ≠ 0 then (o.1, none)
  else match tks (0, [], []) o.2.ts with
    | none => ((160, o.1.2), none)
    | some y => ((0, o.1.2), some (o.2, y))
def OzR (w : World) (d : Nat) (G : Nat → Prop) (most : Int) (r : (Int × St) × Option (Lo × Ey)) (e : Ending) (w' : World) : Prop :=
  match r.2 with
  | none => e = .returned (.tuple #[.pointer none, .int .i64 r.1.1]) ∧ ∃ G', Dw w d G w' G' r.1.2
  | some (x, y) => ∃ q b, e = .returned (.tuple #[.pointer (some ⟨b, 0, none⟩), .int .i64 0]) ∧ r.1.1 = 0 ∧ RzY w G d q b most.toNat r.1.2 x y w'
theorem ozr_no {w : World} {d : Nat} {G G' : Nat → Prop} {most : Int} {r : (Int × St) × Option (Lo × Ey)} {z : Int} {s : St} {w' : World} (h : r = ((z, s), none)) (k : Dw w d G w' G' s) : OzR w d G most r (.returned (.tuple #[.pointer none, .int .i64 z])) w' := by
  subst h
  exact ⟨rfl, G', k⟩
theorem RzP.dw {w : World} {G : Nat → Prop} {d q b most : Nat} {s : St} {x : Lo} {ep : Nat} {ah he : List Bs} {w1 : World} (k : RzP w G d q b most s x ep ah he w1) : ∃ G', Dw w d G w1 G' s := by
  obtain ⟨G', v, u, z, n, f⟩ := k
  exact ⟨G', z.rl.rd.at_, fun y hy => n y (.inl (.inl hy)), f⟩
set_option maxHeartbeats 2000000 in
theorem rzopen_any (w : World) (d : Nat) (G : Nat → Prop) (s : St) (most : Int) (hn : s.n ≤ 1024) (hl : s.l.length + 5000 ≤ 1000000) (D : Hid (DAt w d G s)) :
    Calls Tryz.prog 19 #[.pointer (some ⟨d, 0, none⟩), .int .i64 most] w fun e w' => OzR w d G most (opz most s (opnr s)) e w' := by
  obtain ⟨r, hr⟩ : ∃ r, opz most s (opnr s) = r := ⟨_, rfl⟩
  rw [hr]
  unfold opz at hr
  by_cases h1 : most < 1
  · rw [if_pos (.inl h1)] at hr
    have FF : Hid (OzR w d G most r (.returned (.tuple #[.pointer none, .int .i64 1])) w) := ozr_no hr.symm ⟨D.out, Nx.refl _ _, Bf.refl _ _⟩
    clear hr D
    go_enter Tryz.func19, Tryz.ntmps19
    go_wp2
    go_ret2
    exact FF.out
  · by_cases h2 : 4096 < most
    · rw [if_pos (.inr h2)] at hr
      have FF : Hid (OzR w d G most r (.returned (.tuple #[.pointer none, .int .i64 1])) w) := ozr_no hr.symm ⟨D.out, Nx.refl _ _, Bf.refl _ _⟩
      clear hr D
      go_enter Tryz.func19, Tryz.ntmps19
      go_wp2
      go_ret2
      exact FF.out
    · rw [if_neg (by omega)] at hr
      have OP : Hid _ := ropen_any w d G s hn hl D
      obtain ⟨⟨⟨oe, os⟩, ox⟩, ho⟩ : ∃ o, opnr s = o := ⟨_, rfl⟩
      rw [ho] at hr OP
      have hr' : (if oe ≠ 0 then ((oe, os), (none : Option (Lo × Ey))) else match tks (0, [], []) ox.ts with
        | none => ((160, os), none)
        | some y => ((0, os), some (ox, y))) = r := hr
      have HR : Hid _ := hr'
      obtain ⟨M, hM⟩ : ∃ M : Nat, most = (M : Int) := ⟨most.toNat, by omega⟩
      subst hM
      clear hr hr' ho D
      go_enter Tryz.func19, Tryz.ntmps19
      go_wp2_with fail
      refine Calls.mono OP.out ?_
      rintro e w1 ⟨pv, G1, rfl, dw, hno, hok⟩
      clear OP
      by_cases h0 : oe = 0
      · obtain ⟨q, v, rfl, rl, hnew⟩ := hok h0
        have HR2 := HR.out
        rw [if_neg (by rw [h0]; simp)] at HR2
        have ER : Hid _ := HR2
        have tl := rl.tlen
        have TOK : Hid (∀ t ∈ ox.ts, t.length ≤ 2000) := fun t ht => (rl.ok t ht).2
        have Z1 : Hid (RzY w G d q w1.heap.size M os ox (0, [], []) (w1.alloc (.cells #[.pointer (some ⟨q, 0, none⟩), .int .i64 (M : Int), .int .i64 ((0 : Nat) : Int), .slice none 0 0] 48))) := by
          refine ⟨G1, v, .slice none 0 0, ⟨rl.later (nb _ _), ⟨Blk.new w1 (rsc q M 0 (.slice none 0 0)) _ (by simp), owns_nilH _, fun c => by cases c⟩, fun y hy c => ?_⟩, fun y hy => ?_, dw.bf.later (nb _ _)⟩
          · rcases hy with rfl | e
            · exact Nat.lt_irrefl _ (rl.fq c)
            · cases e
          · rcases hy with (e | e) | e
            · exact dw.nx y e
            · exact .inr (hnew y e)
            · rcases e with rfl | e
              · exact .inr dw.bf.size
              · cases e
        subst h0
        clear dw hno hok rl hnew HR HR2
        obtain ⟨b, hb⟩ : ∃ b, w1.heap.size = b := ⟨_, rfl⟩
        rw [hb] at Z1
        have Z2 : Hid (RzY w G d q b M os ox (0, [], []) (w1.alloc (.cells #[.pointer (some ⟨q, 0, none⟩), .int .i64 (M : Int), .int .i64 0, .slice none 0 0] 48))) := Z1.out
        clear Z1
        go_wp2
        obtain ⟨W0, hW0⟩ : ∃ W0, w1.alloc (.cells #[.pointer (some ⟨q, 0, none⟩), .int .i64 (M : Int), .int .i64 0, .slice none 0 0] 48) = W0 := ⟨_, rfl⟩
        rw [hW0] at Z2 ⊢
        clear hW0 hb
        obtain ⟨N, hN⟩ : ∃ N, ox.ts.length = N := ⟨_, rfl⟩
        have HN : Hid (ox.ts.length = N) := hN
        rw [hN] at tl
        clear hN
        go_loopw [9] (fun i wr => ∃ (k : Nat) (y : Ey), k ≤ N ∧ i = .int .i64 (k : Int) ∧ Hid (tks (0, [], []) (ox.ts.take k) = some y ∧ Gn k y ∧ RzY w G d q b M os ox y wr)) (fun i _ => N - (intOf i).toNat)
        case atStart => exact ⟨0, (0, [], []), Nat.zero_le _, rfl, by rw [List.take_zero]; rfl, Gn.start, Z2.out⟩
        case round =>
          obtain ⟨k, y, hk, rfl, J⟩ := hrel
          clear Z2
          obtain ⟨G2, v2, u2, z2, n2, f2⟩ := J.out.2.2
          obtain ⟨va, vc, rfl, tx, -⟩ := owns_tx HN.out (by have := z2.rl.rd.rf.row; rw [OwnsS, HN.out] at this; exact this)
          have c3 := z2.rl.rd.rf.bk.c 3 _ rfl
          by_cases hlt : k < N
          · have hkl : k < ox.ts.length := by rw [HN.out]; exact hlt
            have g1 : (k : Int) < (N : Int) := by omega
            obtain ⟨g, o, rfl, c1⟩ := tx k hkl
            have ET : Hid (ox.ts.take (k + 1) = ox.ts.take k ++ [ox.ts[k]]) := List.take_succ_eq_append_getElem hkl
            have ED : Hid (ox.ts = ox.ts.take (k + 1) ++ ox.ts.drop (k + 1)) := (List.take_append_drop _ _).symm
            have htl := TOK.out _ (List.getElem_mem hkl)
            have gn := J.out.2.1.n
            have TK : Hid _ := rstake_any b q M y.1 u2 y.2.1 y.2.2 (by omega) ox.ts[k] htl wr z2.rs
            obtain ⟨t, ht⟩ : ∃ t, ox.ts[k] = t := ⟨_, rfl⟩
            rw [ht] at c1 ET TK
            unfold sv at c1
            have TK2 : Hid (Calls Tryz.prog 40 #[.pointer (some ⟨b, 0, none⟩), .string (st t)] wr fun e w' => e = .returned (.bool (tkE y t).isSome) ∧ ∀ z, tkE y t = some z → RzY w G d q b M os ox z w') := Calls.mono TK.out fun e w' ⟨e1, e2⟩ => ⟨e1, fun z hz => by
              have hz' : tkp y.1 y.2.1 y.2.2 t = some z := hz
              rw [hz'] at e2
              exact z2.set e2 n2 f2⟩
            have TK3 : Hid (Calls Tryz.prog 40 #[.pointer (some ⟨b, 0, none⟩), .string (st t)] wr fun e w' => e = .returned (.bool (tkE y t).isSome) ∧ ∃ G', Dw w d G w' G' os) := Calls.mono TK.out fun e w' ⟨e1, e2⟩ => ⟨e1, (z2.set e2 n2 f2).dw⟩
            obtain ⟨T, hT⟩ : ∃ T, st t = T := ⟨_, rfl⟩
            rw [hT] at TK2 TK3 c1
            have JJ : Hid (tks (0, [], []) (ox.ts.take k) = some y ∧ Gn k y) := ⟨J.out.1, J.out.2.1⟩
            clear TK tx z2 n2 f2 J hT ht htl
            cases htk : tkE y t with
            | none =>
              rw [htk] at TK3
              have FR : Hid (tks (0, [], []) ox.ts = none) := by
                show _ = _
                rw [ED.out, ET.out]
                refine tks_no ?_
                rw [tks_app, JJ.out.1]
                exact htk
              have ER2 := ER.out
              rw [FR.out] at ER2
              have FF : Hid (∀ w' G', Dw w d G w' G' os → OzR w d G (M : Int) r (.returned (.tuple #[.pointer none, .int .i64 160])) w') := fun w' G' k => ozr_no ER2.symm k
              clear TK2 JJ ET ED FR ER2 htk
              go_wp2_with fail
              refine Calls.mono TK3.out ?_
              rintro e w2 ⟨rfl, G3, dw3⟩
              have F3 : Hid _ := FF.out w2 G3 dw3
              clear TK3 FF dw3
              go_wp2
              go_ret2
              exact F3.out
            | some z =>
              rw [htk] at TK2
              have FR : Hid (tks (0, [], []) (ox.ts.take (k + 1)) = some z ∧ Gn (k + 1) z) := ⟨by rw [ET.out, tks_app, JJ.out.1]; exact htk, tkE_gn JJ.out.2 htk⟩
              clear TK3 JJ ET ED htk
              go_wp2_with fail
              refine Calls.mono TK2.out ?_
              rintro e w2 ⟨rfl, z3⟩
              have F3 : Hid _ := z3 z rfl
              clear TK2 z3
              go_wp2
              go_roundw
              case rel => exact ⟨k + 1, z, by omega, rfl, FR.out.1, FR.out.2, F3.out⟩
              case measure => simp [intOf]; omega
          · have g1 : ¬ (k : Int) < (N : Int) := by omega
            have FR : tks (0, [], []) ox.ts = some y := by
              have := J.out.1
              rw [List.take_of_length_le (by rw [HN.out]; omega)] at this
              exact this
            have ER2 := ER.out
            rw [FR] at ER2
            have FF : Hid (OzR w d G (M : Int) r (.returned (.tuple #[.pointer (some ⟨b, 0, none⟩), .int .i64 0])) wr) := by
              rw [← ER2]
              exact ⟨q, b, rfl, rfl, J.out.2.2⟩
            clear J ER2 FR tx z2 n2 f2
            go_wp2
            go_ret2
            exact FF.out
      · have HR2 := HR.out
        rw [if_pos h0] at HR2
        obtain rfl := hno h0
        have FF : Hid (OzR w d G (M : Int) r (.returned (.tuple #[.pointer none, .int .i64 oe])) w1) := ozr_no HR2.symm dw
        clear hno hok HR HR2 dw
        go_wp2
        go_ret2
        exact FF.out
end Go.Proofs.YtageoeogofeckaaGreatDoor
namespace Go.Proofs.YtageoeogofeckaaGreatDoor
open Go.RowKit Go.Proofs.Fd Go.Proofs.Dk Go.Proofs.Lg
set_option maxRecDepth 20000
theorem Ow.slice {w W : World} {v : Value} {xs : List Bs} (h : Ow w W v xs) : ∃ a n c, v = .slice a n c := by
  obtain ⟨a, c, e, -, -⟩ := owns_tx rfl (owns_low2 h.1 (Nat.zero_le _))
  exact ⟨a, _, c, e⟩
set_option maxHeartbeats 2000000 in
theorem eappend_any (w W : World) (v : Value) (xs : List Bs) (o : Hid (Ow w W v xs)) (hx : xs.length ≤ 20000) (ep : Nat) (a : Option Addr) (n c : Nat) (tags : List Bs) (hn : tags.length = n) (hn2 : n ≤ 20000) (ht : ∀ t ∈ tags, t.length ≤ 2000) (tx : Hid (TxAt w a tags)) :
    Calls Tryz.prog 116 #[v, .int .i64 (ep : Int), .slice a n c] W fun e w' => ∃ ya yn yc, e = .returned (.slice ya yn yc) ∧ Ow w w' (.slice ya yn yc) (xs ++ (69 :: ben ep 4) :: tags.map (84 :: ·)) := by
  have HN : Hid (tags.length = n) := hn
  have HT : Hid (∀ t ∈ tags, t.length ≤ 2000) := ht
  have ER : Hid _ := sepr_any ep W
  have ON : Hid (∀ W1, Below W.heap.size W W1 → _) := fun W1 (hb : Below W.heap.size W W1) => (o.out.later hb).one (by omega) (69 :: ben ep 4)
  obtain ⟨E, hE⟩ : ∃ E, st (69 :: ben ep 4) = E := ⟨_, rfl⟩
  rw [hE] at ER ON
  obtain ⟨va, vn, vc, rfl⟩ := o.out.slice
  have HL : Hid (∀ k, xs ++ [69 :: ben ep 4] ++ (tags.take k).map (84 :: ·) = xs ++ (69 :: ben ep 4) :: (tags.take k).map (84 :: ·)) := fun k => by rw [List.append_assoc]; rfl
  clear hE o hn ht
  go_enter Tryz.func116, Tryz.ntmps116
  go_wp2_with fail
  refine Calls.mono ER.out ?_
  rintro e w1 ⟨rfl, hb⟩
  obtain ⟨xa, xn, xc, w2, r1, O2⟩ := ON.out w1 hb
  clear ER ON hb
  go_wp2_with (first | (at_builtin; refine Go.Lib.wpList_append_run _ rfl _ _ _ _ rfl _ _ rfl rfl _ _ r1 ?_))
  clear r1
  go_loopw [0, 16] (fun sl i wr => ∃ k : Nat, k ≤ n ∧ i = .int .i64 (k : Int) ∧ Hid (Ow w wr sl (xs ++ [69 :: ben ep 4] ++ (tags.take k).map (84 :: ·)))) (fun _ i _ => n - (intOf i).toNat)
  case atStart => exact ⟨0, Nat.zero_le _, rfl, by rw [List.take_zero, List.map_nil, List.append_nil]; exact O2.out⟩
  case round =>
    obtain ⟨k, hk, rfl, J⟩ := hrel
    clear O2
    by_cases hlt : k < n
    · have hkl : k < tags.length := by rw [HN.out]; exact hlt
      have g1 : (k : Int) < (n : Int) := by omega
      obtain ⟨g, p, rfl, c1⟩ := (tx.out.later J.out.2) k hkl
      have ET : Hid (tags.take (k + 1) = tags.take k ++ [tags[k]]) := List.take_succ_eq_append_getElem hkl
      have htl := HT.out _ (List.getElem_mem hkl)
      obtain ⟨t, ht⟩ : ∃ t, tags[k] = t := ⟨_, rfl⟩
      rw [ht] at c1 ET htl
      unfold sv at c1
      have TR : Hid (Calls Tryz.prog 36 #[.string (st t)] wr fun e w' => e = .returned (.string (st (84 :: t))) ∧ w' = wr) := stagr_any t (by omega) wr
      obtain ⟨ya, yn, yc, w3, r1, O3⟩ := J.out.one (by rw [List.length_append, List.length_append, List.length_map, List.length_take, List.length_singleton]; omega) (84 :: t)
      have O4 : Hid (Ow w w3 (.slice ya yn yc) (xs ++ [69 :: ben ep 4] ++ (tags.take (k + 1)).map (84 :: ·))) := by
        have := O3.out
        rw [List.append_assoc] at this
        rw [ET.out, List.map_append]
        exact this
      obtain ⟨T, hT⟩ : ∃ T, st t = T := ⟨_, rfl⟩
      obtain ⟨R, hR⟩ : ∃ T, st (84 :: t) = T := ⟨_, rfl⟩
      rw [hT] at c1 TR
      rw [hR] at TR r1
      clear hT hR ht O3 J ET htl
      go_wp2_with fail
      refine Calls.mono TR.out ?_
      rintro e w4 ⟨rfl, rfl⟩
      clear TR c1
      go_wp2_with (first | (at_builtin; refine Go.Lib.wpList_append_run _ rfl _ _ _ _ rfl _ _ rfl rfl _ _ r1 ?_))
      go_roundw
      case rel => exact ⟨k + 1, by omega, rfl, O4.out⟩
      case measure => simp [intOf]; omega
    · have g1 : ¬ (k : Int) < (n : Int) := by omega
      have J1 : Hid (Ow w wr u0 (xs ++ (69 :: ben ep 4) :: tags.map (84 :: ·))) := by
        have := J.out
        rw [HL.out, List.take_of_length_le (show tags.length ≤ k by rw [HN.out]; omega)] at this
        exact this
      obtain ⟨ya, yn, yc, rfl⟩ := J1.out.slice
      clear J
      go_wp2
      go_ret
      exact ⟨ya, yn, yc, by first | rfl | trivial, J1.out⟩
set_option maxHeartbeats 2000000 in
theorem eshort_any (b q ep most : Nat) (va vh : Value) (ah he : List Bs) (h1 : ah.length ≤ 10000) (h2 : he.length ≤ 10000) (hep : ep ≤ 4294967296) (h0 : ep = 0 → ah = []) (hb : ∀ t ∈ ah ++ he, t.length ≤ 2000) (w : World) (h : Hid (Es w b q ep most va vh ah he)) :
    Calls Tryz.prog 95 #[.pointer (some ⟨b, 1, none⟩)] w fun e w' => ∃ a c, e = .returned (.slice a (sht ep ah he).length c) ∧ TxAt w' a (sht ep ah he) ∧ Below w.heap.size w w' ∧ (∀ x, a = some x → w.heap.size ≤ x.block) := by
  obtain ⟨a1, c1, rfl, t1, -⟩ := owns_tx rfl h.out.ra
  obtain ⟨a2, c2, rfl, t2, -⟩ := owns_tx rfl h.out.rh
  have T1 : Hid _ := t1
  have T2 : Hid _ := t2
  have k1 := h.out.bk.c 1 _ rfl
  have k2 := h.out.bk.c 2 _ rfl
  have k3 := h.out.bk.c 3 _ rfl
  have FIN : Hid (∀ (W : World) (xa : Option Addr) (xn xc : Nat), Ow w W (.slice xa xn xc) (sht ep ah he) → xn = (sht ep ah he).length ∧ TxAt W xa (sht ep ah he) ∧ Below w.heap.size w W ∧ (∀ x, xa = some x → w.heap.size ≤ x.block)) := fun W xa xn xc o => by
    obtain ⟨ya, yc, e, tz, nz⟩ := owns_txn rfl o.1
    injection e with e1 e2 e3
    subst e1
    exact ⟨e2, tz, o.2, nz⟩
  have LAST : Hid (∀ (W : World) (v : Value) (xs : List Bs), xs.length ≤ 10001 → Ow w W v xs → Calls Tryz.prog 116 #[v, .int .i64 (ep : Int), .slice a2 he.length c2] W fun e w' => ∃ ya yn yc, e = .returned (.slice ya yn yc) ∧ Hid (Ow w w' (.slice ya yn yc) (xs ++ (69 :: ben ep 4) :: he.map (84 :: ·))) ∧ Below w.heap.size w w') := fun W v xs hx o =>
    (eappend_any w W v xs o (by omega) ep a2 he.length c2 he rfl (by omega) (fun t ht => hb t (List.mem_append_right _ ht)) T2).mono fun _ _ ⟨ya, yn, yc, e1, e2⟩ => ⟨ya, yn, yc, e1, e2, e2.2⟩
  have y1 : IntKind.i64.wrap ((ep : Int) - 1) = (ep : Int) - 1 := by rw [IntKind.wrap_i64]; omega
  have S0 : Hid (∀ W, Below w.heap.size w W → W.cell? ⟨b, 1, none⟩ = some (.int .i64 (ep : Int)) ∧ W.cell? ⟨b, 2, none⟩ = some (.slice a1 ah.length c1) ∧ W.cell? ⟨b, 3, none⟩ = some (.slice a2 he.length c2)) := fun W hb => ⟨cell_later hb k1, cell_later hb k2, cell_later hb k3⟩
  by_cases hah : ah = []
  · have hs : sht ep ah he = [] ++ (69 :: ben ep 4) :: he.map (84 :: ·) := by rw [sht, if_pos hah]
    have hz : ah.length = 0 := by rw [hah]; rfl
    rw [hz] at k2 S0
    have L0 : Hid _ := LAST.out w.drew (.slice none 0 0) [] (by simp) ⟨World.ownsRow_nil _ _ _ _, (Below.refl _ _).drew⟩
    rw [← hs] at L0
    obtain ⟨m2, hm2⟩ : ∃ m, he.length = m := ⟨_, rfl⟩
    rw [hm2] at k3 L0 S0
    clear hs hz hah LAST h h0 hb hm2 T1 T2 t1 t2
    go_enter Tryz.func95, Tryz.ntmps95
    go_wp2_with fail
    go_region_held3 (fun w' => w'.cell? ⟨b, 1, none⟩ = some (.int .i64 (ep : Int)) ∧ w'.cell? ⟨b, 2, none⟩ = some (.slice a1 0 c1) ∧ w'.cell? ⟨b, 3, none⟩ = some (.slice a2 m2 c2)) (first | exact ⟨k1, k2, k3⟩ | assumption | exact S0.out _ (by assumption)) (first | (go_at_call 116; refine Calls.mono L0.out ?_; rintro e w2 ⟨ya, yn, yc, rfl, O2, hb2⟩))
    obtain ⟨rfl, F2⟩ := FIN.out w2 ya yn yc O2.out
    have FF : Hid _ := F2
    clear F2 O2 hb2 L0 FIN S0 k1 k2 k3
    go_wp2
    go_ret
    first | exact ⟨ya, yc, rfl, FF.out⟩ | exact ⟨ya, ⟨yc, rfl⟩, FF.out⟩
  · have hep1 : 1 ≤ ep := by
      rcases Nat.eq_zero_or_pos ep with e | e
      · exact absurd (h0 e) hah
      · exact e
    have hs : sht ep ah he = ([] ++ (69 :: ben (ep - 1) 4) :: ah.map (84 :: ·)) ++ (69 :: ben ep 4) :: he.map (84 :: ·) := by rw [sht, if_neg hah]; rfl
    have hz : 0 < ah.length := List.length_pos_iff.2 hah
    have g1 : (0 : Int) < (ah.length : Int) := by omega
    have A0 : Hid (Calls Tryz.prog 116 #[.slice none 0 0, .int .i64 ((ep : Int) - 1), .slice a1 ah.length c1] w.drew fun e w' => ∃ ya yn yc, e = .returned (.slice ya yn yc) ∧ Hid (Ow w w' (.slice ya yn yc) ([] ++ (69 :: ben (ep - 1) 4) :: ah.map (84 :: ·))) ∧ Below w.heap.size w w') := by
      have := eappend_any w w.drew (.slice none 0 0) [] ⟨World.ownsRow_nil _ _ _ _, (Below.refl _ _).drew⟩ (by simp) (ep - 1) a1 ah.length c1 ah rfl (by omega) (fun t ht => hb t (List.mem_append_left _ ht)) T1
      rw [show ((ep - 1 : Nat) : Int) = (ep : Int) - 1 by omega] at this
      exact this.mono fun _ _ ⟨ya, yn, yc, e1, e2⟩ => ⟨ya, yn, yc, e1, e2, e2.2⟩
    have L0 : Hid (∀ W v, Ow w W v ([] ++ (69 :: ben (ep - 1) 4) :: ah.map (84 :: ·)) → _) := fun W v (o : Ow w W v ([] ++ (69 :: ben (ep - 1) 4) :: ah.map (84 :: ·))) => LAST.out W v _ (by simp; omega) o
    rw [← hs] at L0
    obtain ⟨m1, hm1⟩ : ∃ m, ah.length = m := ⟨_, rfl⟩
    obtain ⟨m2, hm2⟩ : ∃ m, he.length = m := ⟨_, rfl⟩
    rw [hm1] at k2 A0 S0 g1
    rw [hm2] at k3 L0 S0
    clear hs hz hah LAST h h0 hb hm1 hm2 T1 T2 t1 t2
    go_enter Tryz.func95, Tryz.ntmps95
    go_wp2_with fail
    go_region_held3 (fun w' => w'.cell? ⟨b, 1, none⟩ = some (.int .i64 (ep : Int)) ∧ w'.cell? ⟨b, 2, none⟩ = some (.slice a1 m1 c1) ∧ w'.cell? ⟨b, 3, none⟩ = some (.slice a2 m2 c2)) (first | exact ⟨k1, k2, k3⟩ | assumption | exact S0.out _ (by assumption)) (first | (go_at_call 116; refine Calls.mono A0.out ?_; rintro e w2 ⟨ya, yn, yc, rfl, O2, hb2⟩))
    obtain ⟨q1, q2, q3⟩ := S0.out w2 hb2
    have L2 : Hid _ := L0.out w2.drew (.slice ya yn yc) (O2.out.later (Below.refl _ _).drew)
    clear A0 O2 L0 k1 k2 k3 hb2
    go_wp2_with fail
    go_region_held3 (fun w' => w'.cell? ⟨b, 1, none⟩ = some (.int .i64 (ep : Int)) ∧ w'.cell? ⟨b, 2, none⟩ = some (.slice a1 m1 c1) ∧ w'.cell? ⟨b, 3, none⟩ = some (.slice a2 m2 c2)) (first | exact ⟨q1, q2, q3⟩ | assumption | exact S0.out _ (by assumption)) (first | (go_at_call 116; refine Calls.mono L2.out ?_; rintro e w3 ⟨za, zn, zc, rfl, O3, hb3⟩))
    obtain ⟨rfl, F3⟩ := FIN.out w3 za zn zc O3.out
    have FF : Hid _ := F3
    clear F3 O3 hb3 L2 FIN S0 q1 q2 q3
    go_wp2
    go_ret
    first | exact ⟨za, zc, rfl, FF.out⟩ | exact ⟨za, ⟨zc, rfl⟩, FF.out⟩
end Go.Proofs.YtageoeogofeckaaGreatDoor
namespace Go.Proofs.YtageoeogofeckaaGreatDoor
open Go.RowKit Go.Proofs.Fd Go.Proofs.Dk Go.Proofs.Lg
set_option maxRecDepth 20000
structure Lz (w wr : World) (p : Nat) (F : Nat → Prop) (s : St) (q : Nat) (v : Value) (x : Lo) : Prop where
  hd_ : HD w wr p F s q (x.h * (s.n / 2)) (s.n / 2) x.g v x.ts x.tk x.mr []
  h1 : x.h ≤ 1
  n4 : 4 ≤ s.n
  n2 : s.n ≤ 1024
  tk : x.tk ≤ s.n / 2
  ok : ∀ t ∈ x.ts, 1 ≤ t.length ∧ t.length ≤ 2000
section
variable {w wr : World} {p : Nat} {F : Nat → Prop} {s : St} {q : Nat} {v : Value} {x : Lo}
theorem Lz.later (h : Lz w wr p F s q v x) {w' : World} (hb : Below wr.heap.size wr w') : Lz w w' p F s q v x := ⟨h.hd_.later hb, h.h1, h.n4, h.n2, h.tk, h.ok⟩
theorem Lz.tlen (h : Lz w wr p F s q v x) : x.ts.length ≤ 512 := by
  have h1 := tkn_ge_len x.ts
  have h2 : tkn 1 x.ts ≤ s.n / 2 := h.tk
  have h3 := h.n2
  omega
theorem Lz.fh (h : Lz w wr p F s q v x) {y : Nat} (hy : FH F q v y) : y < wr.heap.size ∧ w.heap.size ≤ y := by
  rcases hy with e | e
  · exact ⟨h.hd_.dl.at_.lt e, h.hd_.dl.new y e⟩
  · exact ⟨h.hd_.hf.lt e, (h.hd_.ap y e).2⟩
theorem Lz.other (h : Lz w wr p F s q v x) {w' : World} {G : Nat → Prop} (hb : Bf G wr w') (hG : ∀ y, FH F q v y → ¬ G y) (hw : ∀ y, G y → w.heap.size ≤ y) : Lz w w' p F s q v x :=
  ⟨⟨⟨h.hd_.dl.at_.other hb (fun y hy => hG y (.inl hy)), h.hd_.dl.new, h.hd_.dl.below.trans (hb.below hw h.hd_.dl.below.size)⟩, h.hd_.hf.bf hb (fun y hy => hG y (.inr hy)), h.hd_.ap⟩, h.h1, h.n4, h.n2, h.tk, h.ok⟩
theorem Lz.fr (h : Lz w wr p F s q v x) : x.h * (s.n / 2) ≤ 512 := by
  have := h.n2
  rcases (by have := h.h1; omega : x.h = 0 ∨ x.h = 1) with e | e
  · rw [e, Nat.zero_mul]; omega
  · rw [e, Nat.one_mul]; omega
end
def LzP (w wr : World) (p : Nat) (F : Nat → Prop) (q : Nat) (v : Value) (s : St) (x : Lo) (w' : World) : Prop := ∃ F' v', Lz w w' p F' s q v' x ∧ Nx2 wr F q v F' v' ∧ Bf (FH F q v) wr w'
theorem lzappend_any (w wr : World) (p : Nat) (F : Nat → Prop) (s : St) (q : Nat) (v : Value) (x : Lo) (X : ByteArray) (hl : s.l.length + 100 ≤ 1000000) (hk : Kh w) (h : Lz w wr p F s q v x) :
    Calls Tryz.prog 42 #[.pointer (some ⟨q, 0, none⟩), .string X] wr fun e w' => e = .returned (.int .i64 (app s x X.data.toList).1.1) ∧ LzP w wr p F q v (app s x X.data.toList).1.2 (app s x X.data.toList).2 w' := by
  have hn2 := h.n2
  have hfr := h.fr
  have e1 : (app s x X.data.toList).1 = apR s (x.h * (s.n / 2)) (s.n / 2) x.tk x.mr X.data.toList := by
    unfold app apR
    by_cases h1 : may X.data.toList ≠ 0
    · rw [if_pos h1, if_pos h1]
    · rw [if_neg h1, if_neg h1]
      by_cases h2 : s.n / 2 < x.tk + sn X.data.toList
      · rw [if_pos h2, if_pos h2]
      · rw [if_neg h2, if_neg h2]
  have hlen := app_len s x X.data.toList
  refine (lappend_any w wr p F s q (x.h * (s.n / 2)) (s.n / 2) x.g v x.ts x.tk x.mr X (mks_len _ _ rfl) (by have := h.tlen; omega) h.tk (by omega) (by omega) hl hk h.hd_).mono ?_
  rintro e w' ⟨he, F', v', n1, b1, hh⟩
  rw [e1]
  refine ⟨he, F', v', ?_, n1, b1⟩
  rw [e1] at hlen
  obtain ⟨t, ht⟩ : ∃ t, X.data.toList = t := ⟨_, rfl⟩
  rw [ht] at e1 hh hlen ⊢
  have hsn : (apR s (x.h * (s.n / 2)) (s.n / 2) x.tk x.mr t).2.n = s.n := hlen.2
  rcases hh with ⟨c0, hh⟩ | ⟨c0, hh⟩
  · have h1 : may t = 0 := by
      by_cases c : may t = 0
      · exact c
      · exfalso
        unfold apR at c0
        rw [if_pos c] at c0
        exact c c0
    have h2 : ¬ s.n / 2 < x.tk + sn t := fun c => by
      unfold apR at c0
      rw [if_neg (by rw [h1]; simp), if_pos c] at c0
      cases c0
    have e2 : (app s x t).2 = ⟨x.h, x.g, x.ts ++ [t]⟩ := by
      have c0' : (wrb s (x.h * (s.n / 2) + x.tk) (rcd x.mr t)).1 = 0 := by
        unfold apR at c0
        rw [if_neg (by rw [h1]; simp), if_neg h2] at c0
        exact c0
      unfold app
      rw [if_neg (by rw [h1]; simp), if_neg h2]
      show (if (wrb s (x.h * (s.n / 2) + x.tk) (rcd x.mr t)).1 = 0 then _ else _) = _
      rw [if_pos c0']
    have et : (⟨x.h, x.g, x.ts ++ [t]⟩ : Lo).tk = x.tk + sn t := tkn_app x.ts 1 _
    have em : (⟨x.h, x.g, x.ts ++ [t]⟩ : Lo).mr = rmk x.mr t := mks_app x.ts (hm x.g) _
    rw [e2]
    refine ⟨?_, h.h1, by rw [hsn]; exact h.n4, by rw [hsn]; exact h.n2, by rw [et, hsn]; omega, fun u hu => ?_⟩
    · rw [et, em, hsn]
      exact hh
    · rcases List.mem_append.1 hu with hu | hu
      · exact h.ok u hu
      · rw [List.mem_singleton] at hu
        subst hu
        exact may_ok h1
  · have e2 : (app s x t).2 = x := by
      unfold app
      by_cases h1 : may t ≠ 0
      · rw [if_pos h1]
      · rw [if_neg h1]
        by_cases h2 : s.n / 2 < x.tk + sn t
        · rw [if_pos h2]
        · rw [if_neg h2]
          have c0' : (wrb s (x.h * (s.n / 2) + x.tk) (rcd x.mr t)).1 ≠ 0 := by
            unfold apR at c0
            rw [if_neg h1, if_neg h2] at c0
            exact c0
          show (if (wrb s (x.h * (s.n / 2) + x.tk) (rcd x.mr t)).1 = 0 then _ else _) = _
          rw [if_neg c0']
    rw [e2]
    exact ⟨by rw [hsn]; exact hh, h.h1, by rw [hsn]; exact h.n4, by rw [hsn]; exact h.n2, by rw [hsn]; exact h.tk, h.ok⟩
theorem lzcompact_any (w wr : World) (p : Nat) (F : Nat → Prop) (s : St) (q : Nat) (v : Value) (x : Lo) (a : Option Addr) (n c : Nat) (us : List Bs) (hn : us.length = n) (hnb : n ≤ 100000) (hl : s.l.length + 4000 ≤ 1000000) (hk : Kh w) (h : Lz w wr p F s q v x) (tx : TxAt wr a us) (ap : Ap a us F) :
    Calls Tryz.prog 94 #[.pointer (some ⟨q, 0, none⟩), .slice a n c] wr fun e w' => e = .returned (.int .i64 (cmp s x us).1.1) ∧ LzP w wr p F q v (cmp s x us).1.2 (cmp s x us).2 w' := by
  have hn2 := h.n2
  have hn4 := h.n4
  have h01 : x.h = 0 ∨ x.h = 1 := by have := h.h1; omega
  have e2 : s.n / 2 - x.h * (s.n / 2) = (1 - x.h) * (s.n / 2) := by
    rcases h01 with e | e
    · rw [e, Nat.zero_mul, Nat.sub_zero, Nat.sub_zero, Nat.one_mul]
    · rw [e, Nat.one_mul, Nat.sub_self, Nat.sub_self, Nat.zero_mul]
  have e1 : (cmp s x us).1 = cmR s ((1 - x.h) * (s.n / 2)) (s.n / 2) x.g us := by
    unfold cmp cmR
    by_cases h1 : mays us ≠ 0
    · rw [if_pos h1, if_pos h1]
    · rw [if_neg h1, if_neg h1]
      by_cases h2 : s.n / 2 - 1 < sns us
      · rw [if_pos h2, if_pos h2]
      · rw [if_neg h2, if_neg h2]
        by_cases h3 : 2147483647 ≤ x.g
        · rw [if_pos h3, if_pos h3]
        · rw [if_neg h3, if_neg h3]
  have hlen := cmp_len s x us
  refine (lcompact_any w wr p F s q (x.h * (s.n / 2)) (s.n / 2) x.g v x.ts x.tk x.mr a n c us hn (by omega) (by omega) (by omega) (by rcases h01 with e | e; exact .inl (by rw [e, Nat.zero_mul]); exact .inr (by rw [e, Nat.one_mul])) (by omega) hk h.hd_ tx ap).mono ?_
  rintro e w' ⟨he, F', v', n1, b1, hh⟩
  rw [e2, ← e1] at he hh
  refine ⟨he, F', v', ?_, n1, b1⟩
  have hsn : (cmp s x us).1.2.n = s.n := hlen.2
  rcases hh with ⟨c0, hh⟩ | ⟨c0, hh⟩
  · have h1 : ¬ mays us ≠ 0 := fun c => by
      unfold cmp at c0
      rw [if_pos c] at c0
      exact c c0
    have h2 : ¬ s.n / 2 - 1 < sns us := fun c => by
      unfold cmp at c0
      rw [if_neg h1, if_pos c] at c0
      cases c0
    have h3 : ¬ 2147483647 ≤ x.g := fun c => by
      unfold cmp at c0
      rw [if_neg h1, if_neg h2, if_pos c] at c0
      cases c0
    have e3 : (cmp s x us).2 = ⟨1 - x.h, x.g + 1, us⟩ := by
      have c0' : (bgn s ((1 - x.h) * (s.n / 2)) (s.n / 2) (x.g + 1) us).1 = 0 := by
        unfold cmp at c0
        rw [if_neg h1, if_neg h2, if_neg h3] at c0
        exact c0
      unfold cmp
      rw [if_neg h1, if_neg h2, if_neg h3]
      show (if (bgn s ((1 - x.h) * (s.n / 2)) (s.n / 2) (x.g + 1) us).1 = 0 then _ else _) = _
      rw [if_pos c0']
    rw [e3]
    refine ⟨by rw [hsn]; exact hh, by show 1 - x.h ≤ 1; omega, by rw [hsn]; exact h.n4, by rw [hsn]; exact h.n2, ?_, mays_all (by simpa using h1)⟩
    rw [hsn]
    show tkn 1 us ≤ _
    rw [tkn_sns]
    omega
  · have e3 : (cmp s x us).2 = x := by
      unfold cmp
      by_cases h1 : mays us ≠ 0
      · rw [if_pos h1]
      · rw [if_neg h1]
        by_cases h2 : s.n / 2 - 1 < sns us
        · rw [if_pos h2]
        · rw [if_neg h2]
          by_cases h3 : 2147483647 ≤ x.g
          · rw [if_pos h3]
          · rw [if_neg h3]
            have c0' : (bgn s ((1 - x.h) * (s.n / 2)) (s.n / 2) (x.g + 1) us).1 ≠ 0 := by
              unfold cmp at c0
              rw [if_neg h1, if_neg h2, if_neg h3] at c0
              exact c0
            show (if (bgn s ((1 - x.h) * (s.n / 2)) (s.n / 2) (x.g + 1) us).1 = 0 then _ else _) = _
            rw [if_neg c0']
    rw [e3]
    exact ⟨by rw [hsn]; exact hh, h.h1, by rw [hsn]; exact h.n4, by rw [hsn]; exact h.n2, by rw [hsn]; exact h.tk, h.ok⟩
theorem lzsync_any (w wr : World) (p : Nat) (F : Nat → Prop) (s : St) (q : Nat) (v : Value) (x : Lo) (hl : s.l.length ≤ 1000000) (h : Lz w wr p F s q v x) :
    Calls Tryz.prog 44 #[.pointer (some ⟨q, 0, none⟩)] wr fun e w' => e = .returned (.int .i64 (syE s)) ∧ LzP w wr p F q v (syS s) x w' := by
  refine (lsyncl_any w wr p F s q _ _ x.g v x.ts x.tk x.mr [] hl h.hd_).mono ?_
  rintro e w' ⟨he, F', d1, d2, d3⟩
  have hn := syS_n s
  exact ⟨he, F', v, ⟨by rw [hn]; exact h.hd_.disk d1 d2 d3, h.h1, by rw [hn]; exact h.n4, by rw [hn]; exact h.n2, by rw [hn]; exact h.tk, h.ok⟩, ⟨d2, Nx.refl _ _⟩, d3.wide fun _ c => .inl c⟩
end Go.Proofs.YtageoeogofeckaaGreatDoor
