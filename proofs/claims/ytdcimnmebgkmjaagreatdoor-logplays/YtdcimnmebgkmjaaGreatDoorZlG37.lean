/- Parts: LhF, LpB. -/
import Derived.Test.YtdcimnmebgkmjaaGreatDoorZlG36
import Derived.Deep.CutBlock
namespace Go.Proofs.YtdcimnmebgkmjaaGreatDoor
open Go.RowKit Go.Proofs.Fd Go.Proofs.Dk Go.Proofs.Lg
set_option maxRecDepth 20000
theorem lsame_any (a b : Option Addr) (n c c2 : Nat) (l : List Bs) (hn : l.length = n) (hnb : n ≤ 10000000000000) (w : World) (h1 : Hid (TxAt w a l)) (h2 : Hid (TxAt w b l)) :
    Calls Tryz.prog 15 #[.slice a n c, .slice b n c2] w fun e w' => e = .returned (.bool true) ∧ Below w.heap.size w w' := by
  have HN : Hid (l.length = n) := hn
  clear hn
  go_enter Tryz.func15, Tryz.ntmps15
  go_wp2
  go_loopw [5] (fun i wr => ∃ k : Nat, k ≤ n ∧ i = .int .i64 (k : Int) ∧ Hid (Below w.heap.size w wr)) (fun i _ => n - (intOf i).toNat)
  case atStart => exact ⟨0, Nat.zero_le _, rfl, Below.refl _ _⟩
  case round =>
    obtain ⟨k, hk, rfl, J⟩ := hrel
    by_cases hlt : k < n
    · have hkl : k < l.length := by rw [HN.out]; exact hlt
      have g1 : (k : Int) < (n : Int) := by omega
      obtain ⟨b1, o1, rfl, c1⟩ := (h1.out.later J.out) k hkl
      obtain ⟨b2, o2, rfl, c2⟩ := (h2.out.later J.out) k hkl
      unfold sv at c1 c2
      obtain ⟨T, hT⟩ : ∃ T, st l[k] = T := ⟨_, rfl⟩
      rw [hT] at c1 c2
      have J2 : Hid (Below w.heap.size w wr.drew) := J.out.drew
      clear hT J
      go_wp2_with fail
      go_region_with fail
      all_goals
        go_wp2
        go_roundw
        case rel => exact ⟨k + 1, by omega, rfl, J2.out⟩
        case measure => simp [intOf]; omega
    · have g1 : ¬ (k : Int) < (n : Int) := by omega
      go_wp2
      go_ret
      exact ⟨rfl, J.out⟩
theorem lamong_is (x : Int) (N : Nat) (h0 : 0 < N) (h1 : N ≤ 1000) :
    ∃ m : Nat, m < N ∧ ∀ w, Calls Tryz.prog 30 #[.int .i64 x, .int .i64 (N : Int)] w fun e w' => e = .returned (.int .i64 (m : Int)) ∧ w' = w := by
  have hN : (0 : Int) < (N : Int) := by omega
  have r1 := Int.tmod_lt_of_pos x hN
  have r2 := Int.lt_tmod_of_pos x hN
  obtain ⟨r, hr⟩ : ∃ r, Int.tmod x (N : Int) = r := ⟨_, rfl⟩
  rw [hr] at r1 r2
  have s1 := Int.tmod_lt_of_pos (r + (N : Int)) hN
  have s2 := Int.tmod_nonneg (N : Int) (show 0 ≤ r + (N : Int) by omega)
  obtain ⟨m, hm⟩ : ∃ m : Nat, Int.tmod (r + (N : Int)) (N : Int) = (m : Int) := ⟨(Int.tmod (r + (N : Int)) (N : Int)).toNat, by omega⟩
  rw [hm] at s1
  have z1 : IntKind.i64.wrap (Int.tmod x (N : Int)) = r := by rw [hr, IntKind.wrap_i64]; omega
  have z2 : IntKind.i64.wrap (r + (N : Int)) = r + (N : Int) := by rw [IntKind.wrap_i64]; omega
  have z3 : IntKind.i64.wrap (Int.tmod (r + (N : Int)) (N : Int)) = (m : Int) := by rw [hm, IntKind.wrap_i64]; omega
  have hN2 : ¬ (N : Int) = 0 := by omega
  refine ⟨m, by omega, fun w => ?_⟩
  clear r1 r2 s1 s2 h0 h1 hN
  go_enter Tryz.func30, Tryz.ntmps30
  go_wp2
  go_ret
  exact ⟨rfl, rfl⟩
theorem crash0 (w wr : World) (p : Nat) (F : Nat → Prop) (n : Nat) (f : Nat → Bs) (l : List Wt) (hl : l.length ≤ 1000000) (h : Dl w wr p F (up n f l)) :
    Calls Tryz.prog 23 #[.pointer (some ⟨p, 0, none⟩), .slice none 0 0] wr fun e w' => e = .returned (.int .i64 0) ∧ ∃ F', Dl w w' p F' (up n f []) ∧ Nx wr F F' ∧ Bf F wr w' := by
  have et : ∀ (l : List Wt) (f : Nat → Bs) (i : Nat), tear [] f l i = f := fun l => by
    induction l with
    | nil => intro f i; rfl
    | cons x l ih =>
      intro f i
      have e : pkAt [] i = 0 := rfl
      rw [tear, e, mix_zero, upd_self, ih]
  refine (crashL w wr p F (up n f l) none 0 0 [] rfl hl (fun i hi => absurd hi (Nat.not_lt_zero _)) (fun x e => by cases e) h).mono ?_
  rintro e w' ⟨he, F', h1, h2, h3⟩
  have es : crS (up n f l) [] = up n f [] := by
    show (⟨n, tear [] f l 0, [], 0, false⟩ : St) = _
    rw [et]
  rw [es] at h1
  exact ⟨he, F', h1, h2, h3⟩
theorem openU_old (w wr : World) (p : Nat) (F : Nat → Prop) (n : Nat) (f : Nat → Bs) (h g g0 : Nat) (ts : List Bs) (hn4 : 4 ≤ n) (hn2 : n ≤ 1024) (hh : h ≤ 1) (hg1 : 1 ≤ g) (hg2 : g ≤ 1000000) (hg0 : g0 < g) (hs : 1 + sns ts ≤ n / 2) (hok : ∀ t ∈ ts, 1 ≤ t.length ∧ t.length ≤ 2000)
    (ho : gen (hb (up n (bgf (h * (n / 2)) (n / 2) (hd g ++ rcs (hm g) ts) f) []) ((1 - h) * (n / 2)) (n / 2)) = g0) (hk : Kh w) (d : Dl w wr p F (up n (bgf (h * (n / 2)) (n / 2) (hd g ++ rcs (hm g) ts) f) [])) :
    Calls Tryz.prog 20 #[.pointer (some ⟨p, 0, none⟩)] wr fun e w' => ∃ q v F', e = .returned (.tuple #[.pointer (some ⟨q, 0, none⟩), .int .i64 0]) ∧ Lu w w' p F' n (bgf (h * (n / 2)) (n / 2) (hd g ++ rcs (hm g) ts) f) [] q v ⟨h, g, ts⟩ ∧ Bf F wr w' ∧ Nx wr F F' ∧ ∀ z, HFt q v z → wr.heap.size ≤ z := by
  have eo := opn_back (n := n) (h := h) (g := g) (ts := ts) f (by omega) hh hg1 (by omega) hs hok (by rw [ho]; exact hg0)
  refine (lopen_any w wr p F _ (by show 2 ≤ n / 2; omega) (by show 0 + 2000 ≤ 1000000; decide) hk d).mono ?_
  rintro e w' ⟨F', d1, d2, d3, hres⟩
  rw [eo] at d1 hres
  rcases hres with ⟨-, q, v, he, hh', nn⟩ | ⟨c, -⟩
  · refine ⟨q, v, F', he, ⟨hh', hh, hn4, hn2, ?_, hok, bgf_head _ _ _ _ _, hg1, hg2, Nat.zero_le _⟩, d3, d2, nn⟩
    show tkn 1 ts ≤ n / 2
    rw [tkn_sns]
    exact hs
  · exact absurd rfl c
theorem gen_zero (n : Nat) (F : Nat → Bs) (k H : Nat) (h : ∀ i, i < H → F (k + i) = zr 64) : gen (hb (up n F []) k H) = 0 := by
  rw [hb_zero (s := up n F []) H k (fun i hi => h i hi)]
  exact gen_zr _
theorem bgf_app (k H : Nat) (b b2 : Bs) (f : Nat → Bs) (m r : Nat) (hb : b.length = 64 * m) (h2 : b2.length = 64 * r) : lay (bgf k H b f) (wts (k + m) (chs r b2)) = bgf k H (b ++ b2) f := by
  unfold bgf
  rw [← lay_lay, List.length_append, hb, h2, show 64 * m / 64 = m by omega, show (64 * m + 64 * r) / 64 = m + r by omega, chs_app m b b2 r hb, wts_app, chs_len]
theorem appendE (w wr : World) (p : Nat) (F : Nat → Prop) (n : Nat) (f : Nat → Bs) (l : List Wt) (q : Nat) (v : Value) (x : Lo) (X : ByteArray) (hX : may X.data.toList = 0) (hf : x.tk + sn X.data.toList ≤ n / 2) (hk : Kh w) (h : Lu w wr p F n f l q v x) :
    Calls Tryz.prog 21 #[.pointer (some ⟨q, 0, none⟩), .string X] wr fun e w' =>
      e = .returned (.int .i64 0) ∧ ∃ F' v', Lu w w' p F' n f (l ++ wts (x.h * (n / 2) + x.tk) (chs (sn X.data.toList) (rcd x.mr X.data.toList))) q v' { x with ts := x.ts ++ [X.data.toList] } ∧ Nx2 wr F q v F' v' ∧ Bf (FH F q v) wr w' := by
  have hx : x.tk ≤ n / 2 := h.tk
  have hn2 := h.n2
  have hfr := h.fr
  have hln := h.ln
  refine (lappend_any w wr p F (up n f l) q (x.h * (n / 2)) (n / 2) x.g v x.ts x.tk x.mr X (mks_len _ _ rfl) (by have := h.tlen; omega) h.tk (by omega) (by omega) (by show l.length + 100 ≤ 1000000; omega) hk h.hd_).mono ?_
  rintro e w' ⟨he, F', v', n1, b1, hh⟩
  unfold apR at he hh
  rw [if_neg (by rw [hX]; simp), if_neg (by omega)] at he hh
  have ew := wrb_u (rcd_len x.mr X.data.toList) (n := n) (k := x.h * (n / 2) + x.tk) (by omega) f l
  rw [ew] at he hh
  refine ⟨he, F', v', ?_, n1, b1⟩
  have et : (⟨x.h, x.g, x.ts ++ [X.data.toList]⟩ : Lo).tk = x.tk + sn X.data.toList := tkn_app x.ts 1 _
  have em : (⟨x.h, x.g, x.ts ++ [X.data.toList]⟩ : Lo).mr = rmk x.mr X.data.toList := mks_app x.ts (hm x.g) _
  rcases hh with ⟨-, hh⟩ | ⟨c, -⟩
  · refine ⟨?_, h.h1, h.n4, h.n2, ?_, ?_, ?_, h.g1, h.g2, ?_⟩
    · show HD _ _ _ _ _ _ _ _ _ _ _ (⟨x.h, x.g, x.ts ++ [X.data.toList]⟩ : Lo).tk (⟨x.h, x.g, x.ts ++ [X.data.toList]⟩ : Lo).mr _
      rw [et, em]
      exact hh
    · show (⟨x.h, x.g, x.ts ++ [X.data.toList]⟩ : Lo).tk ≤ _
      rw [et]
      omega
    · intro t ht
      rcases List.mem_append.1 ht with ht | ht
      · exact h.ok t ht
      · rw [List.mem_singleton] at ht
        subst ht
        exact may_ok hX
    · show lay f (l ++ _) (x.h * (n / 2)) = hd x.g
      have h1 := tkn_ge x.ts 1
      rw [lay_lay, wts_at, dif_neg (by show ¬ (x.h * (n / 2) + tkn 1 x.ts ≤ _ ∧ _); omega)]
      exact h.sh
    · show (l ++ _).length ≤ (⟨x.h, x.g, x.ts ++ [X.data.toList]⟩ : Lo).tk
      rw [et, List.length_append, wts_len, chs_len]
      omega
  · exact absurd rfl c
theorem syncE (w wr : World) (p : Nat) (F : Nat → Prop) (n : Nat) (f : Nat → Bs) (l : List Wt) (q : Nat) (v : Value) (x : Lo) (h : Lu w wr p F n f l q v x) :
    Calls Tryz.prog 22 #[.pointer (some ⟨q, 0, none⟩)] wr fun e w' => e = .returned (.int .i64 0) ∧ ∃ F', Lu w w' p F' n (lay f l) [] q v x ∧ Nx wr F F' ∧ Bf F wr w' := by
  have hln := h.ln
  have htk : x.tk ≤ n / 2 := h.tk
  have hn2 := h.n2
  exact (lsyncl_any w wr p F (up n f l) q _ _ x.g v x.ts x.tk x.mr [] (by show l.length ≤ 1000000; omega) h.hd_).mono fun _ _ ⟨he, F', d1, d2, d3⟩ => ⟨he, F', ⟨h.hd_.disk d1 d2 d3, h.h1, h.n4, h.n2, h.tk, h.ok, h.sh, h.g1, h.g2, Nat.zero_le _⟩, d2, d3⟩
def tA : Bs := [97]
theorem ex_laid : lay (bgf 0 10 (hd 1 ++ rcs (hm 1) []) zs) ([] ++ wts (0 * 10 + tkn 1 []) (chs (sn tA) (rcd (mks (hm 1) []) tA))) = bgf 0 10 (hd 1 ++ rcs (hm 1) [tA]) zs := by
  have e := bgf_app 0 10 (hd 1 ++ rcs (hm 1) []) (rcd (hm 1) tA) zs 1 (sn tA) (by rw [List.length_append, hd_len]; rfl) (rcd_len _ _)
  have e2 : hd 1 ++ rcs (hm 1) [] ++ rcd (hm 1) tA = hd 1 ++ rcs (hm 1) [tA] := by
    rw [rcs, rcs, rcs, List.append_nil, List.append_nil]
  rw [e2] at e
  exact e
set_option maxHeartbeats 4000000 in
theorem lworks_any (w : World) (hk : Hid (Kh w)) : Calls Tryz.prog 7 #[] w fun e w' => e = .returned (.bool true) ∧ Below w.heap.size w w' := by
  have NW : Hid _ := newL w w 20 (by decide) (by decide) (Below.refl _ _)
  go_enter Tryz.func7, Tryz.ntmps7
  go_wp2_with fail
  refine Calls.mono NW.out ?_
  rintro e w1 ⟨p, F, rfl, I1, -, -⟩
  have J1 : Hid (Dl w w1 p F (up 20 zs [])) := I1
  clear NW I1
  go_wp2_with fail
  refine Calls.mono (openU_new w w1 p F 20 (by decide) (by decide) hk.out J1.out) ?_
  rintro e w2 ⟨q, v, F2, rfl, L2, -, -, -⟩
  have J2 : Hid _ := L2
  clear J1 L2
  go_wp2_with fail
  refine Calls.mono (appendE w w2 p F2 20 _ [] q v ⟨0, 1, []⟩ ⟨#[97]⟩ (by decide) (by decide) hk.out J2.out) ?_
  rintro e w3 ⟨rfl, F3, v3, L3, -, -⟩
  have J3 : Hid _ := L3
  clear J2 L3
  go_wp2_with fail
  refine Calls.mono (syncE w w3 p F3 20 _ _ q v3 _ J3.out) ?_
  rintro e w4 ⟨rfl, F4, L4, -, -⟩
  have L4' : Lu w w4 p F4 20 (bgf 0 10 (hd 1 ++ rcs (hm 1) [tA]) zs) [] q v3 ⟨0, 1, [tA]⟩ := by
    have := L4
    rw [show lay (bgf 0 (20 / 2) (hd 1 ++ rcs (hm 1) []) zs) ([] ++ wts ((⟨0, 1, []⟩ : Lo).h * (20 / 2) + (⟨0, 1, []⟩ : Lo).tk) (chs (sn (⟨#[97]⟩ : ByteArray).data.toList) (rcd (⟨0, 1, []⟩ : Lo).mr (⟨#[97]⟩ : ByteArray).data.toList))) = bgf 0 10 (hd 1 ++ rcs (hm 1) [tA]) zs from ex_laid] at this
    exact this
  have J4 : Hid _ := L4'
  clear J3 L4 L4'
  go_wp2_with fail
  refine Calls.mono (appendE w w4 p F4 20 _ [] q v3 ⟨0, 1, [tA]⟩ ⟨#[98]⟩ (by decide) (by decide) hk.out J4.out) ?_
  rintro e w5 ⟨rfl, F5, v5, L5, -, -⟩
  have J5 : Hid _ := L5
  clear J4 L5
  go_wp2_with fail
  refine Calls.mono (crash0 w w5 p F5 20 _ _ (by rw [List.nil_append, wts_len, chs_len]; decide) J5.out.hd_.dl) ?_
  rintro e w6 ⟨rfl, F6, D6, -, -⟩
  have J6 : Hid (Dl w w6 p F6 (up 20 (bgf (0 * (20 / 2)) (20 / 2) (hd 1 ++ rcs (hm 1) [tA]) zs) [])) := D6
  clear J5 D6
  have HG : Hid (gen (hb (up 20 (bgf (0 * (20 / 2)) (20 / 2) (hd 1 ++ rcs (hm 1) [tA]) zs) []) ((1 - 0) * (20 / 2)) (20 / 2)) = 0) := gen_zero 20 _ 10 10 (fun i hi => bgf_out zs (by rw [List.length_append, hd_len, rcs_len]; decide) (.inr (by omega)))
  go_wp2_with fail
  refine Calls.mono (openU_old w w6 p F6 20 zs 0 1 0 [tA] (by decide) (by decide) (by decide) (by decide) (by decide) (by decide) (by decide) (by decide) HG.out hk.out J6.out) ?_
  rintro e w7 ⟨q7, v7, F7, rfl, L7, -, -, -⟩
  have J7 : Hid _ := L7
  clear J6 L7
  go_wp2_with fail
  refine Calls.mono (recordsU w w7 p F7 20 _ [] q7 v7 _ J7.out) ?_
  rintro e w8 ⟨a8, c8, rfl, t8, b8⟩
  have J8 : Hid (Lu w (w8.alloc (.cells #[.string ⟨#[97]⟩] 9)) p F7 20 (bgf (0 * (20 / 2)) (20 / 2) (hd 1 ++ rcs (hm 1) [tA]) zs) [] q7 v7 ⟨0, 1, [tA]⟩ ∧ TxAt (w8.alloc (.cells #[.string ⟨#[97]⟩] 9)) a8 [tA] ∧ TxAt (w8.alloc (.cells #[.string ⟨#[97]⟩] 9)) (some ⟨w8.heap.size, 0, none⟩) [tA]) :=
    ⟨(J7.out.later b8).later (nb _ _), t8.later (nb _ _), fun i hi => by
      obtain rfl : i = 0 := by simpa using hi
      exact ⟨w8.heap.size, 0, rfl, by rw [World.cell?_alloc_new]; rfl⟩⟩
  clear J7 t8 b8
  go_wp2_with fail
  refine Calls.mono (lsame_any a8 (some ⟨w8.heap.size, 0, none⟩) 1 c8 1 [tA] rfl (by decide) _ J8.out.2.1 J8.out.2.2) ?_
  rintro e w9 ⟨rfl, b9⟩
  have J9 : Hid _ := J8.out.1.later b9
  clear J8 b9
  go_wp2_with fail
  refine Calls.mono (generationU w w9 p F7 20 _ [] q7 v7 _ J9.out) ?_
  rintro e w10 ⟨rfl, rfl⟩
  have FF : Hid (Below w.heap.size w w10) := J9.out.hd_.dl.below
  clear J9
  go_wp2
  go_ret
  exact ⟨rfl, FF.out⟩
end Go.Proofs.YtdcimnmebgkmjaaGreatDoor
namespace Go.Proofs.YtdcimnmebgkmjaaGreatDoor
open Go.RowKit Go.Proofs.Fd Go.Proofs.Dk Go.Proofs.Lg
set_option maxRecDepth 20000
def Rmm (w : World) (g c : Nat) : Prop := ∀ i, i < c → (∃ u, w.cell? ⟨g, i, none⟩ = some u) ∧ w.frozen? ⟨g, i, none⟩ = false
theorem Rmm.set {w : World} {g c : Nat} (h : Rmm w g c) (k : Nat) (v : Value) : Rmm (w.setCell ⟨g, k, none⟩ v) g c := fun i hi => by
  obtain ⟨⟨u, h1⟩, h2⟩ := h i hi
  refine ⟨?_, by rw [World.frozen?_setCell]; exact h2⟩
  by_cases e : k = i
  · subst e
    exact ⟨v, World.cell?_setCell_same _ _ _ h1⟩
  · exact ⟨u, by rw [World.cell?_setCell_other _ _ _ _ (fun q => e (by injection q with q1 q2 q3)), h1]⟩
set_option maxHeartbeats 1000000 in
theorem lspoil_any (a : Option Addr) (n c base : Nat) (l : List Bs) (w : World) (h : w.ownsRow base 9 1 (.slice a n c) n (scs l)) :
    Calls Tryz.prog 29 #[.slice a n c] w fun e w' => e = .returned (.tuple #[]) ∧ Bf (fun g => (Value.slice a n c).ownBlock = some g) w w' := by
  rcases h.2 with ⟨e, -⟩ | ⟨g, cap, cur, e, -, hb, hc, hM, hs, -⟩
  · injection e with e1 e2 e3
    subst e1 e2 e3
    have FF : Hid (Bf (fun g => (Value.slice none 0 0).ownBlock = some g) w w) := Bf.refl _ _
    clear h
    go_enter Tryz.func29, Tryz.ntmps29
    go_wp2_with fail
    go_loopw [2] (fun i wr => i = .int .i64 0 ∧ w = wr) (fun i wr => 0)
    case atStart => exact ⟨rfl, rfl⟩
    case round =>
      obtain ⟨rfl, hw⟩ := hrel
      subst hw
      go_wp2
      go_end0
      exact ⟨rfl, FF.out⟩
  · injection e with e1 e2 e3
    subst e1 e3
    have hcap : c ≤ 9223372036854775807 := by unfold maxLen at hM; omega
    have hcc : (c : Int) ≤ (c : Int) := Int.le_refl _
    have R0 : Hid (Rmm w g c) := fun i hi => by
      rw [Nat.mul_one] at hs
      have hi2 : i < cur.size := by omega
      exact ⟨⟨cur[i], by simp [World.cell?, hb, hi2]⟩, by simp [World.frozen?, hb]⟩
    clear h hb hc hM hs
    go_enter Tryz.func29, Tryz.ntmps29
    go_wp2_with fail
    go_loopw [2] (fun i wr => ∃ k : Nat, k ≤ c ∧ i = .int .i64 (k : Int) ∧ Hid (Rmm wr g c ∧ Bf (fun q => q = g) w wr)) (fun i wr => c - (intOf i).toNat)
    case atStart => exact ⟨0, Nat.zero_le _, rfl, R0.out, Bf.refl _ _⟩
    case round =>
      obtain ⟨k, hk, rfl, I⟩ := hrel
      clear R0
      by_cases hkc : k < c
      · obtain ⟨⟨u, c1⟩, c2⟩ := I.out.1 k hkc
        have gk : (k : Int) < (c : Int) := by omega
        have J : Hid (Rmm (wr.setCell ⟨g, k, none⟩ (.string ⟨#[115, 112, 111, 105, 108, 116]⟩)) g c ∧ Bf (fun q => q = g) w (wr.setCell ⟨g, k, none⟩ (.string ⟨#[115, 112, 111, 105, 108, 116]⟩))) := ⟨I.out.1.set _ _, I.out.2.trans (Nx.refl _ _) ⟨rfl, rfl, rfl, by simp, fun q _ hq => Below.heap_setCell wr ⟨g, k, none⟩ _ q hq⟩⟩
        clear I
        go_wp2
        go_roundw
        case rel => exact ⟨k + 1, by omega, by go_num, J.out⟩
        case measure => simp [intOf]; omega
      · obtain rfl : k = c := by omega
        have FF : Hid (Bf (fun q => (Value.slice (some ⟨g, 0, none⟩) n k).ownBlock = some q) w wr) := ⟨I.out.2.os, I.out.2.tape, I.out.2.output, I.out.2.size, fun q hq hn => I.out.2.block q hq (fun e => hn (by subst e; rfl))⟩
        clear I
        go_wp2
        go_end0
        exact ⟨rfl, FF.out⟩
abbrev lbc (p d : Nat) (pl kl : Option Addr) : List Value := [.pointer (some ⟨p, 0, none⟩), .pointer (some ⟨d, 0, none⟩), .pointer pl, .pointer kl]
theorem Gx.nils {w w0 : World} {U0 : Nat → Prop} {wr : World} {B : Nat} {cs : List Value} {p d : Nat} {sP sR : St} {oP oR : Option Lo} {pl kl : Option Addr} (h : Gx w w0 U0 wr B cs p d sP oP sR oR pl kl) : (oP = none ↔ pl = none) ∧ (oR = none ↔ kl = none) := by
  obtain ⟨Ft, Gt, k, nn, ff⟩ := h
  constructor
  · match oP, k.pp with
    | none, ⟨e, _⟩ => exact ⟨fun _ => e, fun _ => rfl⟩
    | some x, ⟨q, F, v, e, _⟩ => exact ⟨(fun c => by cases c), (fun c => by rw [c] at e; cases e)⟩
  · match oR, k.rp with
    | none, ⟨e, _⟩ => exact ⟨fun _ => e, fun _ => rfl⟩
    | some x, ⟨q, F, v, e, _⟩ => exact ⟨(fun c => by cases c), (fun c => by rw [c] at e; cases e)⟩
set_option maxHeartbeats 4000000 in
theorem lpopen_any (w w0 : World) (U0 : Nat → Prop) (wr : World) (B p d : Nat) (s : St) (pl0 kl0 : Option Addr) (hn : s.n ≤ 1024) (hl : s.l.length + 5000 ≤ 1000000) (hU : Hid (U0 B)) (hk : Hid (Kh w)) (h : Hid (Gx w w0 U0 wr B (lbc p d pl0 kl0) p d s none s none none none)) :
    Calls Tryz.prog 8 #[.pointer (some ⟨B, 0, none⟩)] wr fun e w' => e = .returned (.bool true) ∧ ∃ pl kl, Gx w w0 U0 w' B (lbc p d pl kl) p d (opn s).1.2 (oLo (opn s)) (opn s).1.2 (oLo (opn s)) pl kl := by
  have P1 : Hid (Calls Tryz.prog 20 #[.pointer (some ⟨p, 0, none⟩)] wr fun e w1 => ∃ pl, e = .returned (.tuple #[.pointer pl, .int .i64 (opn s).1.1]) ∧ w1.cell? ⟨B, 2, none⟩ = some (.pointer pl0) ∧ (∀ o, w1.frozen? ⟨B, o, none⟩ = false) ∧ Hid (Gx w w0 U0 (w1.setCell ⟨B, 2, none⟩ (.pointer pl)) B (lbc p d pl kl0) p d (opn s).1.2 (oLo (opn s)) s none pl none)) :=
    (flopenP_any w w0 U0 wr B _ p d s s none none hn (by omega) hk.out h.out).mono fun _ w1 ⟨pl, e1, e2, e3⟩ => ⟨pl, e1, e2.blk.c 2 _ rfl, e2.blk.f, e2.set 2 (show 2 < 4 by decide) _ hU.out⟩
  have P2 : Hid (∀ (W : World) (pl : Option Addr), Gx w w0 U0 W B (lbc p d pl kl0) p d (opn s).1.2 (oLo (opn s)) s none pl none → W.cell? ⟨B, 1, none⟩ = some (.pointer (some ⟨d, 0, none⟩)) ∧ Hid (Calls Tryz.prog 26 #[.pointer (some ⟨d, 0, none⟩)] W fun e w1 => ∃ kl, e = .returned (.tuple #[.pointer kl, .int .i64 (opn s).1.1]) ∧ w1.cell? ⟨B, 3, none⟩ = some (.pointer kl0) ∧ (∀ o, w1.frozen? ⟨B, o, none⟩ = false) ∧ Hid (Gx w w0 U0 (w1.setCell ⟨B, 3, none⟩ (.pointer kl)) B (lbc p d pl kl) p d (opn s).1.2 (oLo (opn s)) (opn s).1.2 (oLo (opn s)) pl kl))) := fun W pl z =>
    ⟨z.blk.c 1 _ rfl, (flopenR_any w w0 U0 W B _ p d (opn s).1.2 s (oLo (opn s)) pl hn hl z).mono fun _ w1 ⟨kl, e1, e2, e3⟩ => ⟨kl, e1, e2.blk.c 3 _ rfl, e2.blk.f, e2.set 3 (show 3 < 4 by decide) _ hU.out⟩⟩
  have c0 := h.out.blk.c 0 _ rfl
  obtain ⟨r, hr⟩ : ∃ r, opn s = r := ⟨_, rfl⟩
  rw [hr] at P1 P2 ⊢
  obtain ⟨z, hz⟩ : ∃ z, r.1.1 = z := ⟨_, rfl⟩
  rw [hz] at P1 P2
  clear hr hz h
  go_enter Tryz.func8, Tryz.ntmps8
  go_wp2_with fail
  refine Calls.mono P1.out ?_
  rintro e w1 ⟨pl, rfl, c21, cf1, H1⟩
  obtain ⟨c11, Q2⟩ := P2.out _ _ H1.out
  clear P1 P2 H1 c0
  obtain ⟨W2, hW2⟩ : ∃ W2, w1.setCell ⟨B, 2, none⟩ (.pointer pl) = W2 := ⟨_, rfl⟩
  rw [hW2] at Q2 c11
  go_wp2_with fail
  refine Calls.mono Q2.out ?_
  rintro e w3 ⟨kl, rfl, c33, cf3, H3⟩
  clear Q2 c11 c21 cf1 hW2
  obtain ⟨W4, hW4⟩ : ∃ W4, w3.setCell ⟨B, 3, none⟩ (.pointer kl) = W4 := ⟨_, rfl⟩
  rw [hW4] at H3
  have FF : Hid (∃ pl kl, Gx w w0 U0 W4.drew B (lbc p d pl kl) p d r.1.2 (oLo r) r.1.2 (oLo r) pl kl) := ⟨pl, kl, H3.out.later (Below.refl _ _).drew⟩
  have c2 := H3.out.blk.c 2 _ rfl
  have c3 := H3.out.blk.c 3 _ rfl
  obtain ⟨I1, I2⟩ := H3.out.nils
  have J1 : Hid (oLo r = none ↔ pl = none) := I1
  have J2 : Hid (oLo r = none ↔ kl = none) := I2
  clear H3 I1 I2
  go_wp2_with fail
  clear hW4 c33 cf3
  by_cases ho : oLo r = none
  · obtain rfl := J1.out.1 ho
    obtain rfl := J2.out.1 ho
    clear J1 J2
    go_region_held3 (fun w' => w'.cell? ⟨B, 2, none⟩ = some (.pointer none) ∧ w'.cell? ⟨B, 3, none⟩ = some (.pointer none)) (first | exact ⟨c2, c3⟩ | assumption) (fail)
    go_wp2
    go_ret
    exact ⟨rfl, FF.out⟩
  · obtain ⟨a1, rfl⟩ : ∃ a, pl = some a := by
      cases pl with
      | none => exact absurd (J1.out.2 rfl) ho
      | some a => exact ⟨a, rfl⟩
    obtain ⟨a2, rfl⟩ : ∃ a, kl = some a := by
      cases kl with
      | none => exact absurd (J2.out.2 rfl) ho
      | some a => exact ⟨a, rfl⟩
    clear J1 J2
    go_region_held3 (fun w' => w'.cell? ⟨B, 2, none⟩ = some (.pointer (some a1)) ∧ w'.cell? ⟨B, 3, none⟩ = some (.pointer (some a2))) (first | exact ⟨c2, c3⟩ | assumption) (fail)
    go_wp2
    go_ret
    exact ⟨rfl, FF.out⟩
set_option maxHeartbeats 2000000 in
theorem lpcrash_any (w w0 : World) (U0 : Nat → Prop) (wr : World) (B p d : Nat) (s : St) (pl0 kl0 : Option Addr) (pa : Option Addr) (pn pc : Nat) (l : List Int) (hpn : l.length = pn) (hp : IntAt w0 pa l) (hlt : ∀ x, pa = some x → 0 < l.length → x.block < w0.heap.size ∧ ¬ U0 x.block) (hn : s.n ≤ 1024) (hl : s.l.length + 5000 ≤ 1000000) (hU : Hid (U0 B)) (hk : Hid (Kh w)) (h : Hid (Gx w w0 U0 wr B (lbc p d pl0 kl0) p d s none s none none none)) :
    Calls Tryz.prog 33 #[.pointer (some ⟨B, 0, none⟩), .slice pa pn pc] wr fun e w' => e = .returned (.bool true) ∧ ∃ pl kl, Gx w w0 U0 w' B (lbc p d pl kl) p d (opn (crS s l)).1.2 (oLo (opn (crS s l))) (opn (crS s l)).1.2 (oLo (opn (crS s l))) pl kl := by
  have P1 : Hid (Calls Tryz.prog 23 #[.pointer (some ⟨p, 0, none⟩), .slice pa pn pc] wr fun e w1 => e = .returned (.int .i64 0) ∧ w1.cell? ⟨B, 1, none⟩ = some (.pointer (some ⟨d, 0, none⟩)) ∧ Hid (Gx w w0 U0 w1 B (lbc p d pl0 kl0) p d (crS s l) none s none none none)) :=
    (gcrashP_any w w0 U0 wr B _ p d s s none none pa pn pc l hpn (by omega) hp hlt h.out).mono fun _ w1 ⟨e1, e2⟩ => ⟨e1, e2.blk.c 1 _ rfl, e2⟩
  have P2 : Hid (∀ W, Gx w w0 U0 W B (lbc p d pl0 kl0) p d (crS s l) none s none none none → Calls Tryz.prog 46 #[.pointer (some ⟨d, 0, none⟩), .slice pa pn pc] W fun e w1 => e = .returned (.int .i64 0) ∧ Hid (Gx w w0 U0 w1 B (lbc p d pl0 kl0) p d (crS s l) none (crS s l) none none none)) := fun W z =>
    (gcrashR_any w w0 U0 W B _ p d (crS s l) s none none pa pn pc l hpn (by omega) hp hlt z).mono fun _ w1 ⟨e1, e2⟩ => ⟨e1, e2⟩
  have cn : (crS s l).n = s.n := rfl
  have cl : (crS s l).l.length = 0 := rfl
  have P3 : Hid (∀ W, Gx w w0 U0 W B (lbc p d pl0 kl0) p d (crS s l) none (crS s l) none none none → _) := fun W z => lpopen_any w w0 U0 W B p d (crS s l) pl0 kl0 (by omega) (by omega) hU hk z
  have c0 := h.out.blk.c 0 _ rfl
  clear h hpn hp hlt hn hl cn cl
  go_enter Tryz.func33, Tryz.ntmps33
  go_wp2_with fail
  refine Calls.mono P1.out ?_
  rintro e w1 ⟨rfl, c1, H1⟩
  have Q2 : Hid _ := P2.out _ H1.out
  clear P1 P2 H1 c0
  go_wp2_with fail
  refine Calls.mono Q2.out ?_
  rintro e w2 ⟨rfl, H2⟩
  have Q3 : Hid _ := P3.out _ H2.out
  clear Q2 P3 H2 c1
  go_wp2_with fail
  refine Calls.mono Q3.out ?_
  rintro e w3 ⟨rfl, H3⟩
  have FF : Hid _ := H3
  clear Q3 H3
  go_wp2
  go_ret
  exact ⟨rfl, FF.out⟩
end Go.Proofs.YtdcimnmebgkmjaaGreatDoor
