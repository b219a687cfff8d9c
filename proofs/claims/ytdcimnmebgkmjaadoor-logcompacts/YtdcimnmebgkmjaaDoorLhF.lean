/- What the laws lean on: lists held against one another, a log opened anew, the chapter's example. -/
import Derived.Test.YtdcimnmebgkmjaaDoorLhE
namespace Go.Proofs.YtdcimnmebgkmjaaDoor
open Go.RowKit Go.Proofs.Fd Go.Proofs.Dk Go.Proofs.Lg
set_option maxRecDepth 20000

theorem lsame_any (a b : Option Addr) (n c c2 : Nat) (l : List Bs) (hn : l.length = n) (hnb : n ≤ 10000000000000) (w : World) (h1 : Hid (TxAt w a l)) (h2 : Hid (TxAt w b l)) :
    Calls Tryd.prog 17 #[.slice a n c, .slice b n c2] w fun e w' => e = .returned (.bool true) ∧ Below w.heap.size w w' := by
  have HN : Hid (l.length = n) := hn
  clear hn
  go_enter Tryd.func17, Tryd.ntmps17
  go_wp2
  go_loopw [5] (fun i wr => ∃ k : Nat, k ≤ n ∧ i = .int .i64 (k : Int) ∧ Hid (Below w.heap.size w wr)) (fun i _ => n - (intOf i).toNat)
  case atStart => exact ⟨0, Nat.zero_le _, rfl, Below.refl _ _⟩
  case round =>
    obtain ⟨k, hk, rfl, J⟩ := hrel
    by_cases hlt : k < n
    · have hkl : k < l.length := by rw [HN.out]; exact hlt
      have g1 : (k : Int) < (n : Int) := by omega
      obtain ⟨b1, o1, rfl, c1⟩ := (h1.out.later J.out) k hkl
      obtain ⟨b2, o2, rfl, c2⟩ := (h2.out.later J.out) k hkl
      unfold sv at c1 c2
      obtain ⟨T, hT⟩ : ∃ T, st l[k] = T := ⟨_, rfl⟩
      rw [hT] at c1 c2
      have J2 : Hid (Below w.heap.size w wr.drew) := J.out.drew
      clear hT J
      go_wp2_with fail
      go_region_with fail
      all_goals
        go_wp2
        go_roundw
        case rel => exact ⟨k + 1, by omega, rfl, J2.out⟩
        case measure => simp [intOf]; omega
    · have g1 : ¬ (k : Int) < (n : Int) := by omega
      go_wp2
      go_ret
      exact ⟨rfl, J.out⟩
theorem lamong_is (x : Int) (N : Nat) (h0 : 0 < N) (h1 : N ≤ 1000) :
    ∃ m : Nat, m < N ∧ ∀ w, Calls Tryd.prog 15 #[.int .i64 x, .int .i64 (N : Int)] w fun e w' => e = .returned (.int .i64 (m : Int)) ∧ w' = w := by
  have hN : (0 : Int) < (N : Int) := by omega
  have r1 := Int.tmod_lt_of_pos x hN
  have r2 := Int.lt_tmod_of_pos x hN
  obtain ⟨r, hr⟩ : ∃ r, Int.tmod x (N : Int) = r := ⟨_, rfl⟩
  rw [hr] at r1 r2
  have s1 := Int.tmod_lt_of_pos (r + (N : Int)) hN
  have s2 := Int.tmod_nonneg (N : Int) (show 0 ≤ r + (N : Int) by omega)
  obtain ⟨m, hm⟩ : ∃ m : Nat, Int.tmod (r + (N : Int)) (N : Int) = (m : Int) := ⟨(Int.tmod (r + (N : Int)) (N : Int)).toNat, by omega⟩
  rw [hm] at s1
  have z1 : IntKind.i64.wrap (Int.tmod x (N : Int)) = r := by rw [hr, IntKind.wrap_i64]; omega
  have z2 : IntKind.i64.wrap (r + (N : Int)) = r + (N : Int) := by rw [IntKind.wrap_i64]; omega
  have z3 : IntKind.i64.wrap (Int.tmod (r + (N : Int)) (N : Int)) = (m : Int) := by rw [hm, IntKind.wrap_i64]; omega
  have hN2 : ¬ (N : Int) = 0 := by omega
  refine ⟨m, by omega, fun w => ?_⟩
  clear r1 r2 s1 s2 h0 h1 hN
  go_enter Tryd.func15, Tryd.ntmps15
  go_wp2
  go_ret
  exact ⟨rfl, rfl⟩
/-- A crash with no picks. -/
theorem crash0 (w wr : World) (p : Nat) (F : Nat → Prop) (n : Nat) (f : Nat → Bs) (l : List Wt) (hl : l.length ≤ 1000000) (h : Dl w wr p F (up n f l)) :
    Calls Tryd.prog 16 #[.pointer (some ⟨p, 0, none⟩), .slice none 0 0] wr fun e w' => e = .returned (.int .i64 0) ∧ ∃ F', Dl w w' p F' (up n f []) ∧ Nx wr F F' ∧ Bf F wr w' := by
  have et : ∀ (l : List Wt) (f : Nat → Bs) (i : Nat), tear [] f l i = f := fun l => by
    induction l with
    | nil => intro f i; rfl
    | cons x l ih =>
      intro f i
      have e : pkAt [] i = 0 := rfl
      rw [tear, e, mix_zero, upd_self, ih]
  refine (crashL w wr p F (up n f l) none 0 0 [] rfl hl (fun i hi => absurd hi (Nat.not_lt_zero _)) (fun x e => by cases e) h).mono ?_
  rintro e w' ⟨he, F', h1, h2, h3⟩
  have es : crS (up n f l) [] = up n f [] := by
    show (⟨n, tear [] f l 0, [], 0, false⟩ : St) = _
    rw [et]
  rw [es] at h1
  exact ⟨he, F', h1, h2, h3⟩
/-- A half that was begun is found again. -/
theorem openU_old (w wr : World) (p : Nat) (F : Nat → Prop) (n : Nat) (f : Nat → Bs) (h g g0 : Nat) (ts : List Bs) (hn4 : 4 ≤ n) (hn2 : n ≤ 1024) (hh : h ≤ 1) (hg1 : 1 ≤ g) (hg2 : g ≤ 1000000) (hg0 : g0 < g) (hs : 1 + sns ts ≤ n / 2) (hok : ∀ t ∈ ts, 1 ≤ t.length ∧ t.length ≤ 2000)
    (ho : gen (hb (up n (bgf (h * (n / 2)) (n / 2) (hd g ++ rcs (hm g) ts) f) []) ((1 - h) * (n / 2)) (n / 2)) = g0) (hk : Kh w) (d : Dl w wr p F (up n (bgf (h * (n / 2)) (n / 2) (hd g ++ rcs (hm g) ts) f) [])) :
    Calls Tryd.prog 9 #[.pointer (some ⟨p, 0, none⟩)] wr fun e w' => ∃ q v F', e = .returned (.tuple #[.pointer (some ⟨q, 0, none⟩), .int .i64 0]) ∧ Lu w w' p F' n (bgf (h * (n / 2)) (n / 2) (hd g ++ rcs (hm g) ts) f) [] q v ⟨h, g, ts⟩ ∧ Bf F wr w' ∧ Nx wr F F' ∧ ∀ z, HFt q v z → wr.heap.size ≤ z := by
  have eo := opn_back (n := n) (h := h) (g := g) (ts := ts) f (by omega) hh hg1 (by omega) hs hok (by rw [ho]; exact hg0)
  refine (lopen_any w wr p F _ (by show 2 ≤ n / 2; omega) (by show 0 + 2000 ≤ 1000000; decide) hk d).mono ?_
  rintro e w' ⟨F', d1, d2, d3, hres⟩
  rw [eo] at d1 hres
  rcases hres with ⟨-, q, v, he, hh', nn⟩ | ⟨c, -⟩
  · refine ⟨q, v, F', he, ⟨hh', hh, hn4, hn2, ?_, hok, bgf_head _ _ _ _ _, hg1, hg2, Nat.zero_le _⟩, d3, d2, nn⟩
    show tkn 1 ts ≤ n / 2
    rw [tkn_sns]
    exact hs
  · exact absurd rfl c
/-- The generation of a half whose first sector is a head. -/
theorem gen_of (n : Nat) (F : Nat → Bs) (k H g : Nat) (hH : 1 ≤ H) (hg : g ≤ 2147483647) (h : F k = hd g) : gen (hb (up n F []) k H) = g := by
  obtain ⟨m, rfl⟩ : ∃ m, H = 1 + m := ⟨H - 1, by omega⟩
  have e : hb (up n F []) k 1 = hd g := by
    have : hb (up n F []) k 1 = F k := by simp [hb, St.sh, lay]
    rw [this, h]
  rw [hb_app, e]
  exact gen_hd hg _
theorem gen_zero (n : Nat) (F : Nat → Bs) (k H : Nat) (h : ∀ i, i < H → F (k + i) = zr 64) : gen (hb (up n F []) k H) = 0 := by
  rw [hb_zero (s := up n F []) H k (fun i hi => h i hi)]
  exact gen_zr _
theorem bgf_app (k H : Nat) (b b2 : Bs) (f : Nat → Bs) (m r : Nat) (hb : b.length = 64 * m) (h2 : b2.length = 64 * r) : lay (bgf k H b f) (wts (k + m) (chs r b2)) = bgf k H (b ++ b2) f := by
  unfold bgf
  rw [← lay_lay, List.length_append, hb, h2, show 64 * m / 64 = m by omega, show (64 * m + 64 * r) / 64 = m + r by omega, chs_app m b b2 r hb, wts_app, chs_len]
/-- A record is appended, and finds room. -/
theorem appendE (w wr : World) (p : Nat) (F : Nat → Prop) (n : Nat) (f : Nat → Bs) (l : List Wt) (q : Nat) (v : Value) (x : Lo) (X : ByteArray) (hX : may X.data.toList = 0) (hf : x.tk + sn X.data.toList ≤ n / 2) (hk : Kh w) (h : Lu w wr p F n f l q v x) :
    Calls Tryd.prog 11 #[.pointer (some ⟨q, 0, none⟩), .string X] wr fun e w' =>
      e = .returned (.int .i64 0) ∧ ∃ F' v', Lu w w' p F' n f (l ++ wts (x.h * (n / 2) + x.tk) (chs (sn X.data.toList) (rcd x.mr X.data.toList))) q v' { x with ts := x.ts ++ [X.data.toList] } ∧ Nx2 wr F q v F' v' ∧ Bf (FH F q v) wr w' := by
  have hx : x.tk ≤ n / 2 := h.tk
  have hn2 := h.n2
  have hfr := h.fr
  have hln := h.ln
  refine (lappend_any w wr p F (up n f l) q (x.h * (n / 2)) (n / 2) x.g v x.ts x.tk x.mr X (mks_len _ _ rfl) (by have := h.tlen; omega) h.tk (by omega) (by omega) (by show l.length + 100 ≤ 1000000; omega) hk h.hd_).mono ?_
  rintro e w' ⟨he, F', v', n1, b1, hh⟩
  unfold apR at he hh
  rw [if_neg (by rw [hX]; simp), if_neg (by omega)] at he hh
  have ew := wrb_u (rcd_len x.mr X.data.toList) (n := n) (k := x.h * (n / 2) + x.tk) (by omega) f l
  rw [ew] at he hh
  refine ⟨he, F', v', ?_, n1, b1⟩
  have et : (⟨x.h, x.g, x.ts ++ [X.data.toList]⟩ : Lo).tk = x.tk + sn X.data.toList := tkn_app x.ts 1 _
  have em : (⟨x.h, x.g, x.ts ++ [X.data.toList]⟩ : Lo).mr = rmk x.mr X.data.toList := mks_app x.ts (hm x.g) _
  rcases hh with ⟨-, hh⟩ | ⟨c, -⟩
  · refine ⟨?_, h.h1, h.n4, h.n2, ?_, ?_, ?_, h.g1, h.g2, ?_⟩
    · show HD _ _ _ _ _ _ _ _ _ _ _ (⟨x.h, x.g, x.ts ++ [X.data.toList]⟩ : Lo).tk (⟨x.h, x.g, x.ts ++ [X.data.toList]⟩ : Lo).mr _
      rw [et, em]
      exact hh
    · show (⟨x.h, x.g, x.ts ++ [X.data.toList]⟩ : Lo).tk ≤ _
      rw [et]
      omega
    · intro t ht
      rcases List.mem_append.1 ht with ht | ht
      · exact h.ok t ht
      · rw [List.mem_singleton] at ht
        subst ht
        exact may_ok hX
    · show lay f (l ++ _) (x.h * (n / 2)) = hd x.g
      have h1 := tkn_ge x.ts 1
      rw [lay_lay, wts_at, dif_neg (by show ¬ (x.h * (n / 2) + tkn 1 x.ts ≤ _ ∧ _); omega)]
      exact h.sh
    · show (l ++ _).length ≤ (⟨x.h, x.g, x.ts ++ [X.data.toList]⟩ : Lo).tk
      rw [et, List.length_append, wts_len, chs_len]
      omega
  · exact absurd rfl c
theorem syncE (w wr : World) (p : Nat) (F : Nat → Prop) (n : Nat) (f : Nat → Bs) (l : List Wt) (q : Nat) (v : Value) (x : Lo) (h : Lu w wr p F n f l q v x) :
    Calls Tryd.prog 27 #[.pointer (some ⟨q, 0, none⟩)] wr fun e w' => e = .returned (.int .i64 0) ∧ ∃ F', Lu w w' p F' n (lay f l) [] q v x ∧ Nx wr F F' ∧ Bf F wr w' := by
  have hln := h.ln
  have htk : x.tk ≤ n / 2 := h.tk
  have hn2 := h.n2
  exact (lsyncl_any w wr p F (up n f l) q _ _ x.g v x.ts x.tk x.mr [] (by show l.length ≤ 1000000; omega) h.hd_).mono fun _ _ ⟨he, F', d1, d2, d3⟩ => ⟨he, F', ⟨h.hd_.disk d1 d2 d3, h.h1, h.n4, h.n2, h.tk, h.ok, h.sh, h.g1, h.g2, Nat.zero_le _⟩, d2, d3⟩
def tA : Bs := [97]
/-- What lies behind the example's first text. -/
theorem ex_laid : lay (bgf 0 10 (hd 1 ++ rcs (hm 1) []) zs) ([] ++ wts (0 * 10 + tkn 1 []) (chs (sn tA) (rcd (mks (hm 1) []) tA))) = bgf 0 10 (hd 1 ++ rcs (hm 1) [tA]) zs := by
  have e := bgf_app 0 10 (hd 1 ++ rcs (hm 1) []) (rcd (hm 1) tA) zs 1 (sn tA) (by rw [List.length_append, hd_len]; rfl) (rcd_len _ _)
  have e2 : hd 1 ++ rcs (hm 1) [] ++ rcd (hm 1) tA = hd 1 ++ rcs (hm 1) [tA] := by
    rw [rcs, rcs, rcs, List.append_nil, List.append_nil]
  rw [e2] at e
  exact e
set_option maxHeartbeats 4000000 in
theorem lworks_any (w : World) (hk : Hid (Kh w)) : Calls Tryd.prog 8 #[] w fun e w' => e = .returned (.bool true) ∧ Below w.heap.size w w' := by
  have NW : Hid _ := newL w w 20 (by decide) (by decide) (Below.refl _ _)
  go_enter Tryd.func8, Tryd.ntmps8
  go_wp2_with fail
  refine Calls.mono NW.out ?_
  rintro e w1 ⟨p, F, rfl, I1, -, -⟩
  have J1 : Hid (Dl w w1 p F (up 20 zs [])) := I1
  clear NW I1
  go_wp2_with fail
  refine Calls.mono (openU_new w w1 p F 20 (by decide) (by decide) hk.out J1.out) ?_
  rintro e w2 ⟨q, v, F2, rfl, L2, -, -, -⟩
  have J2 : Hid _ := L2
  clear J1 L2
  go_wp2_with fail
  refine Calls.mono (appendE w w2 p F2 20 _ [] q v ⟨0, 1, []⟩ ⟨#[97]⟩ (by decide) (by decide) hk.out J2.out) ?_
  rintro e w3 ⟨rfl, F3, v3, L3, -, -⟩
  have J3 : Hid _ := L3
  clear J2 L3
  go_wp2_with fail
  refine Calls.mono (syncE w w3 p F3 20 _ _ q v3 _ J3.out) ?_
  rintro e w4 ⟨rfl, F4, L4, -, -⟩
  have L4' : Lu w w4 p F4 20 (bgf 0 10 (hd 1 ++ rcs (hm 1) [tA]) zs) [] q v3 ⟨0, 1, [tA]⟩ := by
    have := L4
    rw [show lay (bgf 0 (20 / 2) (hd 1 ++ rcs (hm 1) []) zs) ([] ++ wts ((⟨0, 1, []⟩ : Lo).h * (20 / 2) + (⟨0, 1, []⟩ : Lo).tk) (chs (sn (⟨#[97]⟩ : ByteArray).data.toList) (rcd (⟨0, 1, []⟩ : Lo).mr (⟨#[97]⟩ : ByteArray).data.toList))) = bgf 0 10 (hd 1 ++ rcs (hm 1) [tA]) zs from ex_laid] at this
    exact this
  have J4 : Hid _ := L4'
  clear J3 L4 L4'
  go_wp2_with fail
  refine Calls.mono (appendE w w4 p F4 20 _ [] q v3 ⟨0, 1, [tA]⟩ ⟨#[98]⟩ (by decide) (by decide) hk.out J4.out) ?_
  rintro e w5 ⟨rfl, F5, v5, L5, -, -⟩
  have J5 : Hid _ := L5
  clear J4 L5
  go_wp2_with fail
  refine Calls.mono (crash0 w w5 p F5 20 _ _ (by rw [List.nil_append, wts_len, chs_len]; decide) J5.out.hd_.dl) ?_
  rintro e w6 ⟨rfl, F6, D6, -, -⟩
  have J6 : Hid (Dl w w6 p F6 (up 20 (bgf (0 * (20 / 2)) (20 / 2) (hd 1 ++ rcs (hm 1) [tA]) zs) [])) := D6
  clear J5 D6
  have HG : Hid (gen (hb (up 20 (bgf (0 * (20 / 2)) (20 / 2) (hd 1 ++ rcs (hm 1) [tA]) zs) []) ((1 - 0) * (20 / 2)) (20 / 2)) = 0) := gen_zero 20 _ 10 10 (fun i hi => bgf_out zs (by rw [List.length_append, hd_len, rcs_len]; decide) (.inr (by omega)))
  go_wp2_with fail
  refine Calls.mono (openU_old w w6 p F6 20 zs 0 1 0 [tA] (by decide) (by decide) (by decide) (by decide) (by decide) (by decide) (by decide) (by decide) HG.out hk.out J6.out) ?_
  rintro e w7 ⟨q7, v7, F7, rfl, L7, -, -, -⟩
  have J7 : Hid _ := L7
  clear J6 L7
  go_wp2_with fail
  refine Calls.mono (recordsU w w7 p F7 20 _ [] q7 v7 _ J7.out) ?_
  rintro e w8 ⟨a8, c8, rfl, t8, b8⟩
  have J8 : Hid (Lu w (w8.alloc (.cells #[.string ⟨#[97]⟩] 9)) p F7 20 (bgf (0 * (20 / 2)) (20 / 2) (hd 1 ++ rcs (hm 1) [tA]) zs) [] q7 v7 ⟨0, 1, [tA]⟩ ∧ TxAt (w8.alloc (.cells #[.string ⟨#[97]⟩] 9)) a8 [tA] ∧ TxAt (w8.alloc (.cells #[.string ⟨#[97]⟩] 9)) (some ⟨w8.heap.size, 0, none⟩) [tA]) :=
    ⟨(J7.out.later b8).later (nb _ _), t8.later (nb _ _), fun i hi => by
      obtain rfl : i = 0 := by simpa using hi
      exact ⟨w8.heap.size, 0, rfl, by rw [World.cell?_alloc_new]; rfl⟩⟩
  clear J7 t8 b8
  go_wp2_with fail
  refine Calls.mono (lsame_any a8 (some ⟨w8.heap.size, 0, none⟩) 1 c8 1 [tA] rfl (by decide) _ J8.out.2.1 J8.out.2.2) ?_
  rintro e w9 ⟨rfl, b9⟩
  have J9 : Hid _ := J8.out.1.later b9
  clear J8 b9
  go_wp2_with fail
  refine Calls.mono (generationU w w9 p F7 20 _ [] q7 v7 _ J9.out) ?_
  rintro e w10 ⟨rfl, rfl⟩
  have FF : Hid (Below w.heap.size w w10) := J9.out.hd_.dl.below
  clear J9
  go_wp2
  go_ret
  exact ⟨rfl, FF.out⟩
end Go.Proofs.YtdcimnmebgkmjaaDoor
