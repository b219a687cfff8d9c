/- GateApart. -/
import Derived.Test.YtbogoheigbiegaaDoorZgG27
namespace Go.Proofs.Gt
open Go.Proofs.Ml Go.Proofs.Hs
theorem ad_two {x q s : Int} (h2 : 1 ≤ s) (h3 : s ≤ 2147483647) :
    adE [⟨3, kk, x⟩, ⟨9, kk, q⟩] (pl kk 9 s) = (if s ≤ q then 170 else 0) ∧ adS [⟨3, kk, x⟩, ⟨9, kk, q⟩] (pl kk 9 s) = [⟨3, kk, x⟩, ⟨9, kk, if s ≤ q then q else s⟩] := by
  have a : at' [(⟨3, kk, x⟩ : Si), ⟨9, kk, q⟩] 9 = 1 := by
    rw [show at' [(⟨3, kk, x⟩ : Si), ⟨9, kk, q⟩] 9 = at' [(⟨9, kk, q⟩ : Si)] 9 + 1 from if_neg (show ¬ (3 : Int) = 9 by decide), show at' [(⟨9, kk, q⟩ : Si)] 9 = 0 from if_pos rfl]
  have h := ad_pull (L := [⟨3, kk, x⟩, ⟨9, kk, q⟩]) (key := kk) (u := 9) (by decide) (by decide) h2 h3 (by rw [a]; first | exact Nat.one_lt_two | exact Nat.zero_lt_succ _) (by simp only [a]; rfl)
  simp only [a] at h
  refine ⟨h.1, h.2.trans ?_⟩
  by_cases d : s ≤ q
  · rw [if_pos d]; show (if s ≤ q then _ else _) = _; rw [if_pos d]
  · rw [if_neg d]; show (if s ≤ q then _ else _) = _; rw [if_neg d]; rfl
theorem ad_first {x q s : Int} (h2 : 1 ≤ s) (h3 : s ≤ 2147483647) : ∃ x', adS [⟨3, kk, x⟩, ⟨9, kk, q⟩] (pl kk 3 s) = [⟨3, kk, x'⟩, ⟨9, kk, q⟩] := by
  have a : at' [(⟨3, kk, x⟩ : Si), ⟨9, kk, q⟩] 3 = 0 := if_pos rfl
  have h := ad_pull (L := [⟨3, kk, x⟩, ⟨9, kk, q⟩]) (key := kk) (u := 3) (by decide) (by decide) h2 h3 (by rw [a]; first | exact Nat.one_lt_two | exact Nat.zero_lt_succ _) (by simp only [a]; rfl)
  simp only [a] at h
  by_cases d : s ≤ x
  · refine ⟨x, h.2.trans ?_⟩
    show (if s ≤ x then _ else _) = _; rw [if_pos d]
  · refine ⟨s, h.2.trans ?_⟩
    show (if s ≤ x then _ else _) = _; rw [if_neg d]; rfl
theorem chk_two : chk [⟨3, kk⟩, ⟨9, kk⟩] = (0, 0) := by decide
end Go.Proofs.Gt
namespace Go.Proofs.YtbogoheigbiegaaDoor.Gat
open Go.RowKit Go.Proofs.Fd Go.Proofs.Ml Go.Proofs.Hs Go.Proofs.Gt
open Go.Proofs.YtbogoheigbiegaaDoor.Mai (mv MlAt Lists MlV SlAt enS chkE z32)
set_option maxRecDepth 20000
structure Two (w0 w : World) (p g p' g' : Nat) (x qa qb : Int) : Prop where
  a : Ow w0 w p g [⟨3, kk, x⟩, ⟨9, kk, qa⟩]
  b : Ow w0 w p' g' [⟨9, kk, qb⟩]
  n1 : p ≠ g'
  n2 : g ≠ g'
  n3 : p' ≠ g
theorem Two.later {w0 w w' : World} {p g p' g' : Nat} {x qa qb : Int} (h : Two w0 w p g p' g' x qa qb) (hb : Below w.heap.size w w') : Two w0 w' p g p' g' x qa qb := ⟨h.a.later hb, h.b.later hb, h.n1, h.n2, h.n3⟩
theorem Ow.apart {F : Nat → Prop} {w0 w w' : World} {p g : Nat} {L : List Si} (h : Ow w0 w p g L) (hb : Bf F w w') (hF : ∀ x, F x → w0.heap.size ≤ x) (h1 : ¬ F p) (h2 : ¬ F g) : Ow w0 w' p g L :=
  ⟨h.a.apart hb h1 h2, h.b.trans (hb.below hF h.b.size), h.p, h.g, h.k0⟩
theorem Two.stepA {w0 w w' : World} {p g p' g' : Nat} {x qa qb x' qa' : Int} (h : Two w0 w p g p' g' x qa qb) (ha : GAt w' p g [⟨3, kk, x'⟩, ⟨9, kk, qa'⟩]) (hb : Bf (fun y => y = g) w w') : Two w0 w' p g p' g' x' qa' qb :=
  ⟨h.a.step ha hb, h.b.apart hb (fun y e => by rw [e]; exact h.a.g) h.n3 (fun e => h.n2 e.symm), h.n1, h.n2, h.n3⟩
theorem Two.stepB {w0 w w' : World} {p g p' g' : Nat} {x qa qb qb' : Int} (h : Two w0 w p g p' g' x qa qb) (ha : GAt w' p' g' [⟨9, kk, qb'⟩]) (hb : Bf (fun y => y = g') w w') : Two w0 w' p g p' g' x qa qb' :=
  ⟨h.a.apart hb (fun y e => by rw [e]; exact h.b.g) h.n1 h.n2, h.b.step ha hb, h.n1, h.n2, h.n3⟩
theorem newL (l : List Ac) (hl : chk l = (0, 0)) (b n : Nat) (hn : l.length = n) (hm : n ≤ 1000) (w : World) (hc : AcAt w (some ⟨b, 0, none⟩) l) (w0 : World) (B : Below w0.heap.size w0 w) (K : Kh w0) :
    Calls Tryd.prog 10 #[.slice (some ⟨b, 0, none⟩) n n] w fun e w' => ∃ p g, e = .returned (.tuple #[.pointer (some ⟨p, 0, none⟩), .int .i64 0]) ∧ Ow w0 w' p g (l.map sg) ∧ w.heap.size ≤ p ∧ w.heap.size ≤ g ∧ Below w.heap.size w w' := by
  refine Calls.mono (new_any (some ⟨b, 0, none⟩) n n l hn (by omega) (Nat.le_refl n) w hc) ?_
  rintro e w' ⟨hb, ⟨h, -⟩ | ⟨h, p, g, rfl, ha, hp, hg⟩⟩
  · rw [hl] at h; exact absurd rfl h
  · exact ⟨p, g, rfl, ⟨ha, chain B hb, Nat.le_trans B.size hp, Nat.le_trans B.size hg, K⟩, hp, hg, hb⟩
theorem lists_none {w : World} {a : Option Addr} {n c : Nat} {a2 : Option Addr} {n2 c2 : Nat} (h : Lists w a n c a2 n2 c2 [] []) (w' : World) : Lists w' a n c a2 n2 c2 [] [] := ⟨Mai.SlAt.nil _ _, Mai.StrAt.nil _ _, h.ls, h.li, h.zs, h.zi, h.ms, h.mi⟩
def Sev (w : World) (M : Nat) (k u q : Int) (t g : ByteArray) (a : Option Addr) (n c : Nat) (a2 : Option Addr) (n2 c2 : Nat) : Prop := w.cell? ⟨M, 0, none⟩ = some (.int .i64 k) ∧ w.cell? ⟨M, 1, none⟩ = some (.int .i64 u) ∧ w.cell? ⟨M, 2, none⟩ = some (.int .i64 q) ∧ w.cell? ⟨M, 3, none⟩ = some (.string t) ∧ w.cell? ⟨M, 4, none⟩ = some (.string g) ∧ w.cell? ⟨M, 5, none⟩ = some (.slice a n c) ∧ w.cell? ⟨M, 6, none⟩ = some (.slice a2 n2 c2)
theorem Sev.apart {F : Nat → Prop} {w w' : World} {M : Nat} {k u q : Int} {t g : ByteArray} {a : Option Addr} {n c : Nat} {a2 : Option Addr} {n2 c2 : Nat} (h : Sev w M k u q t g a n c a2 n2 c2) (hb : Bf F w w') (hF : ¬ F M) : Sev w' M k u q t g a n c a2 n2 c2 := by
  obtain ⟨h0, h1, h2, h3, h4, h5, h6⟩ := h
  exact ⟨hb.cell h0 hF, hb.cell h1 hF, hb.cell h2 hF, hb.cell h3 hF, hb.cell h4 hF, hb.cell h5 hF, hb.cell h6 hF⟩
theorem laTwo (x q : Int) : laV [(⟨3, kk, x⟩ : Si), ⟨9, kk, q⟩] 9 = q ∧ laE [(⟨3, kk, x⟩ : Si), ⟨9, kk, q⟩] 9 = 0 := by
  have a : at' [(⟨3, kk, x⟩ : Si), ⟨9, kk, q⟩] 9 = 1 := by
    rw [show at' [(⟨3, kk, x⟩ : Si), ⟨9, kk, q⟩] 9 = at' [(⟨9, kk, q⟩ : Si)] 9 + 1 from if_neg (show ¬ (3 : Int) = 9 by decide), show at' [(⟨9, kk, q⟩ : Si)] 9 = 0 from if_pos rfl]
  refine ⟨?_, ?_⟩
  · unfold laV
    rw [dif_pos (by rw [a]; first | exact Nat.one_lt_two | exact Nat.zero_lt_succ _)]
    simp only [a]; rfl
  · unfold laE
    rw [if_pos (by rw [a]; first | exact Nat.one_lt_two | exact Nat.zero_lt_succ _)]
theorem laOne (q : Int) : laV [(⟨9, kk, q⟩ : Si)] 9 = q ∧ laE [(⟨9, kk, q⟩ : Si)] 9 = 0 := by
  have a : at' [(⟨9, kk, q⟩ : Si)] 9 = 0 := if_pos rfl
  refine ⟨?_, ?_⟩
  · unfold laV
    rw [dif_pos (by rw [a]; first | exact Nat.one_lt_two | exact Nat.zero_lt_succ _)]
    simp only [a]; rfl
  · unfold laE
    rw [if_pos (by rw [a]; first | exact Nat.one_lt_two | exact Nat.zero_lt_succ _)]
set_option maxHeartbeats 4000000 in
theorem GateApart_walk (a : Option Addr) (l : List Int) (n c : Nat) (a2 : Option Addr) (l2 : List Int) (n2 c2 : Nat) (hn : Hid (l.length = n)) (hn2 : Hid (l2.length = n2)) (w : World) (K : Hid (Kh w)) (hc : Hid (IntAt w a l)) (hc2 : Hid (IntAt w a2 l2)) :
    Calls Tryd.prog 7 #[.slice a n c, .slice a2 n2 c2] w fun e w' => e = .returned (.bool true) ∧ Below w.heap.size w w' := by
  have PU : Hid (∀ (s : Int) (w2 : World), 1 ≤ s → s ≤ 2147483647 → Kh w2 → Calls Tryd.prog 22 #[.string ⟨#[116, 104, 105, 114, 116, 121, 45, 116, 119, 111, 32, 98, 121, 116, 101, 115, 32, 97, 114, 101, 32, 106, 117, 115, 116, 32, 97, 32, 107, 101, 121, 46]⟩, .int .i64 s] w2 fun e w' => ∃ v, e = .returned v ∧ MlV w' v (pl kk 3 s) ∧ Below w2.heap.size w2 w') := fun s w2 h2 h3 hk => pull_any kk s kk_size h2 h3 w2 hk
  have SG : Hid (∀ (s : Int) (w2 : World), 1 ≤ s → s ≤ 2147483647 → Kh w2 → Calls Tryd.prog 21 #[.string ⟨#[116, 104, 105, 114, 116, 121, 45, 116, 119, 111, 32, 98, 121, 116, 101, 115, 32, 97, 114, 101, 32, 106, 117, 115, 116, 32, 97, 32, 107, 101, 121, 46]⟩, mv 2 9 s ⟨#[]⟩ ⟨#[]⟩ none 0 0 none 0 0] w2 fun e w' => ∃ (tg : ByteArray) (a : Option Addr) (n c : Nat) (a2 : Option Addr) (n2 c2 : Nat), e = .returned (.tuple #[mv 2 9 s ⟨#[]⟩ tg a n c a2 n2 c2, .int .i64 0]) ∧ tg = tgM kk (plM 9 s) ∧ Lists w' a n c a2 n2 c2 [] [] ∧ Below w2.heap.size w2 w') := fun s w2 h2 h3 hk => by
    have q := Sign_any kk 2 9 s ⟨#[]⟩ ⟨#[]⟩ none 0 0 none 0 0 [] [] w2 (Lists.zero w2) hk
    have e := sg_pl (u := 9) kk_size (by decide) (by decide) h2 h3
    unfold plM Ml.e0 at e
    rw [e.1, e.2] at q
    refine Calls.mono q ?_
    rintro e w' ⟨v, rfl, ⟨a, n, c, a2, n2, c2, rfl, LL⟩, hb⟩
    exact ⟨_, a, n, c, a2, n2, c2, rfl, rfl, LL, hb⟩
  have NA : Hid (∀ (b : Nat) (w2 : World), w2.cell? ⟨b, 0, none⟩ = some (.int .i64 3) → w2.cell? ⟨b, 1, none⟩ = some (.string ⟨#[116, 104, 105, 114, 116, 121, 45, 116, 119, 111, 32, 98, 121, 116, 101, 115, 32, 97, 114, 101, 32, 106, 117, 115, 116, 32, 97, 32, 107, 101, 121, 46]⟩) → w2.cell? ⟨b, 2, none⟩ = some (.int .i64 9) → w2.cell? ⟨b, 3, none⟩ = some (.string ⟨#[116, 104, 105, 114, 116, 121, 45, 116, 119, 111, 32, 98, 121, 116, 101, 115, 32, 97, 114, 101, 32, 106, 117, 115, 116, 32, 97, 32, 107, 101, 121, 46]⟩) → Below w.heap.size w w2 → Calls Tryd.prog 10 #[.slice (some ⟨b, 0, none⟩) 2 2] w2 fun e w' => ∃ p g, e = .returned (.tuple #[.pointer (some ⟨p, 0, none⟩), .int .i64 0]) ∧ Ow w w' p g [⟨3, kk, 0⟩, ⟨9, kk, 0⟩]) := fun b w2 h0 h1 h2 h3 hb => by
    refine Calls.mono (newL [⟨3, kk⟩, ⟨9, kk⟩] chk_two b 2 rfl (by omega) w2 (fun i hi => ?_) w hb K.out) ?_
    · rcases (by simp at hi; omega : i = 0 ∨ i = 1) with rfl | rfl
      · exact ⟨b, 0, rfl, h0, h1⟩
      · exact ⟨b, 0, rfl, h2, h3⟩
    · rintro e w' ⟨p, g, rfl, O, -⟩
      exact ⟨p, g, rfl, O⟩
  have NB : Hid (∀ (b : Nat) (w2 : World) (p g : Nat) (x qa : Int), w2.cell? ⟨b, 0, none⟩ = some (.int .i64 9) → w2.cell? ⟨b, 1, none⟩ = some (.string ⟨#[116, 104, 105, 114, 116, 121, 45, 116, 119, 111, 32, 98, 121, 116, 101, 115, 32, 97, 114, 101, 32, 106, 117, 115, 116, 32, 97, 32, 107, 101, 121, 46]⟩) → Ow w w2 p g [⟨3, kk, x⟩, ⟨9, kk, qa⟩] → Calls Tryd.prog 10 #[.slice (some ⟨b, 0, none⟩) 1 1] w2 fun e w' => ∃ p' g', e = .returned (.tuple #[.pointer (some ⟨p', 0, none⟩), .int .i64 0]) ∧ Two w w' p g p' g' x qa 0) := fun b w2 p g x qa h0 h1 O => by
    refine Calls.mono (newL [⟨9, kk⟩] (chk_one 9 (by decide) (by decide)) b 1 rfl (by omega) w2 (fun i hi => ?_) w O.b K.out) ?_
    · obtain rfl : i = 0 := by simpa using hi
      exact ⟨b, 0, rfl, h0, h1⟩
    · rintro e w' ⟨p', g', rfl, O', hp, hg, hb⟩
      have lp := O.a.lt
      have lg := World.block_lt_of_cell? _ _ (O.a.s 0 (by simp)).1
      simp only at lg
      exact ⟨p', g', rfl, O.later hb, O', by omega, by omega, by omega⟩
  have WK : Hid (∀ w2, Kh w2 → Calls Tryd.prog 20 #[] w2 fun e w' => e = .returned (.bool true) ∧ Below w2.heap.size w2 w') := fun w2 h => gworks_any w2 h
  unfold mv at SG
  go_enter Tryd.func7, Tryd.ntmps7
  go_wp2_with fail
  refine Calls.mono (NA.out _ _ (by simp [go_sem]) (by simp [go_sem]) (by simp [go_sem]) (by simp [go_sem]) ((Below.refl _ _).alloc (Nat.le_refl _) _)) ?_
  rintro e w1 ⟨p, g, rfl, h1⟩
  have O1 : Hid (Ow w w1 p g [⟨3, kk, 0⟩, ⟨9, kk, 0⟩]) := h1
  clear h1 NA
  go_wp2_with fail
  refine Calls.mono (NB.out _ _ p g 0 0 (by simp [go_sem]) (by simp [go_sem]) (O1.out.later ((Below.refl _ _).alloc (Nat.le_refl _) _))) ?_
  rintro e w2 ⟨p', g', rfl, h1⟩
  have T2 : Hid (Two w w2 p g p' g' 0 0 0) := h1
  clear h1 NB O1
  go_wp2_with fail
  refine Calls.mono (WK.out _ T2.out.a.k) ?_
  rintro e w3 ⟨rfl, hb⟩
  have T3 : Hid (Two w w3 p g p' g' 0 0 0) := T2.out.later hb
  clear hb WK T2
  go_wp2
  go_loopw [9] (fun i wr => ∃ (k : Nat) (x q : Int), k ≤ n ∧ i = .int .i64 (k : Int) ∧ Hid (Two w wr p g p' g' x q q)) (fun i _ => n - (intOf i).toNat)
  case atStart => exact ⟨0, 0, 0, Nat.zero_le _, rfl, T3.out⟩
  case round =>
    obtain ⟨k, x, q, hk, rfl, I⟩ := hrel
    clear T3
    by_cases hlt : k < n ∧ k < 40
    · obtain ⟨hlt, h40⟩ := hlt
      have g1 : (k : Int) < (n : Int) := by omega
      have g2 : (k : Int) < 40 := by omega
      have hk' : k < l.length := by rw [hn.out]; exact hlt
      obtain ⟨b, o, rfl, c0⟩ := hc.out k hk'
      obtain ⟨r, s, hr, hs, z1, z2, z3, z4, z5⟩ := mod_of l[k] 100 (by omega) (by omega)
      have hr' : (IntKind.u64.wrap l[k]).tmod 100 = (r : Int) := hr
      have S1 : Hid (1 ≤ s ∧ s ≤ 2147483647) := ⟨hs.1, Int.le_trans hs.2 (by decide)⟩
      generalize l[k] = xk at c0 hr'
      have C0 : Hid (∀ w', Below w.heap.size w w' → w'.cell? ⟨b, o + k, none⟩ = some (.int .i64 xk)) := fun w' hb => cell_later hb c0
      clear hr hs hk' c0
      by_cases h2 : k < n2
      · have g3 : (k : Int) < (n2 : Int) := by omega
        have hk2 : k < l2.length := by rw [hn2.out]; exact h2
        obtain ⟨b2, o2, rfl, d0⟩ := hc2.out k hk2
        obtain ⟨r2, s2, hr2, hs2, y1, y2, y3, y4, y5⟩ := mod_of l2[k] 1000 (by omega) (by omega)
        have hr2' : (IntKind.u64.wrap l2[k]).tmod 1000 = (r2 : Int) := hr2
        have S2 : Hid (1 ≤ s2 ∧ s2 ≤ 2147483647) := ⟨hs2.1, Int.le_trans hs2.2 (by decide)⟩
        generalize l2[k] = xk2 at d0 hr2'
        have d1 := cell_later I.out.a.b d0
        have C2 : Hid True := trivial
        clear hr2 hs2 hk2 d0
        go_wp2_with fail
        refine Calls.mono (PU.out s2 _ S2.out.1 S2.out.2 I.out.a.k) ?_
        rintro e w4 ⟨v, rfl, hv, hb⟩
        have T4 : Hid (Two w w4 p g p' g' x q q) := I.out.later hb
        have AD : Hid (Calls Tryd.prog 14 #[.pointer (some ⟨p, 0, none⟩), v] w4 fun e w' => ∃ E x', e = .returned (.int .i64 E) ∧ Two w w' p g p' g' x' q q) := by
          refine Calls.mono (admitV p g _ v _ (by show (tgM kk (plM 3 s2)).size ≤ _; rw [tgM_size]; omega) w4 T4.out.a.a hv T4.out.a.k) ?_
          rintro e w' ⟨rfl, ha, hb⟩
          obtain ⟨x', hx⟩ := ad_first (x := x) (q := q) S2.out.1 S2.out.2
          rw [hx] at ha
          exact ⟨_, x', rfl, T4.out.stepA ha hb⟩
        clear hv hb y1 y2 y3 y4 y5 hr2' d1 I S2 T4
        go_wp2_with fail
        refine Calls.mono AD.out ?_
        rintro e wB ⟨E0, x1, rfl, hT⟩
        have T : Hid (Two w wB p g p' g' x1 q q) := hT
        clear hT AD x
        obtain ⟨x, rfl⟩ : ∃ x, x = x1 := ⟨_, rfl⟩
        have c1 := C0.out _ T.out.a.b
        clear C0 C2
        go_wp2_with fail
        refine Calls.mono (SG.out s _ S1.out.1 S1.out.2 T.out.a.k) ?_
        rintro e w5 ⟨tg, la, ln, lc, la2, ln2, lc2, rfl, htg, LL, hb⟩
        have T5 : Hid (Two w w5 p g p' g' x q q) := T.out.later hb
        obtain ⟨E, hE⟩ : ∃ E : Int, (if s ≤ q then (170 : Int) else 0) = E := ⟨_, rfl⟩
        obtain ⟨q1, hq1⟩ : ∃ q1 : Int, (if s ≤ q then q else s) = q1 := ⟨_, rfl⟩
        have CA : Hid (∀ w2, Two w w2 p g p' g' x q q → Calls Tryd.prog 14 #[.pointer (some ⟨p, 0, none⟩), .agg #[.int .i64 2, .int .i64 9, .int .i64 s, .string ⟨#[]⟩, .string tg, .slice la ln lc, .slice la2 ln2 lc2]] w2 fun e w' => e = .returned (.int .i64 E) ∧ Two w w' p g p' g' x q1 q ∧ Bf (fun y => y = g) w2 w') := fun w2 T => by
          refine Calls.mono (Admit_any p g _ 2 9 s ⟨#[]⟩ tg la ln lc la2 ln2 lc2 [] [] (by rw [htg, tgM_size]; omega) w2 T.a.a (lists_none LL w2) T.a.k) ?_
          rintro e w' ⟨rfl, ha, hb⟩
          have z := ad_two (x := x) (q := q) S1.out.1 S1.out.2
          rw [hE, hq1] at z
          have e0' : (⟨2, 9, s, ⟨#[]⟩, tg, [], []⟩ : Ml) = pl kk 9 s := by rw [htg]; rfl
          rw [e0', z.2] at ha
          rw [e0', z.1]
          exact ⟨rfl, T.stepA ha hb, hb⟩
        have CB : Hid (∀ w2, Two w w2 p g p' g' x q1 q → Calls Tryd.prog 14 #[.pointer (some ⟨p', 0, none⟩), .agg #[.int .i64 2, .int .i64 9, .int .i64 s, .string ⟨#[]⟩, .string tg, .slice la ln lc, .slice la2 ln2 lc2]] w2 fun e w' => e = .returned (.int .i64 E) ∧ Two w w' p g p' g' x q1 q1 ∧ Bf (fun y => y = g') w2 w') := fun w2 T => by
          refine Calls.mono (Admit_any p' g' _ 2 9 s ⟨#[]⟩ tg la ln lc la2 ln2 lc2 [] [] (by rw [htg, tgM_size]; omega) w2 T.b.a (lists_none LL w2) T.b.k) ?_
          rintro e w' ⟨rfl, ha, hb⟩
          have z := ad_one (key := kk) (u := 9) (s := s) (q := q) (by decide) (by decide) S1.out.1 S1.out.2
          rw [hE, hq1] at z
          have e0' : (⟨2, 9, s, ⟨#[]⟩, tg, [], []⟩ : Ml) = pl kk 9 s := by rw [htg]; rfl
          rw [e0', z.2] at ha
          rw [e0', z.1]
          exact ⟨rfl, T.stepB ha hb, hb⟩
        clear hE hq1 htg LL hb T c1 z1 z2 z3 z4 z5 hr' SG
        go_wp2_with fail
        obtain ⟨W, hW⟩ : ∃ W, w5.alloc (.cells #[.int .i64 2, .int .i64 9, .int .i64 s, .string ⟨#[]⟩, .string tg, .slice la ln lc, .slice la2 ln2 lc2] 38) = W := ⟨_, rfl⟩
        have S0 : W.cell? ⟨w5.heap.size, 0, none⟩ = some (.int .i64 2) ∧ W.cell? ⟨w5.heap.size, 1, none⟩ = some (.int .i64 9) ∧ W.cell? ⟨w5.heap.size, 2, none⟩ = some (.int .i64 s) ∧ W.cell? ⟨w5.heap.size, 3, none⟩ = some (.string ⟨#[]⟩) ∧ W.cell? ⟨w5.heap.size, 4, none⟩ = some (.string tg) ∧ W.cell? ⟨w5.heap.size, 5, none⟩ = some (.slice la ln lc) ∧ W.cell? ⟨w5.heap.size, 6, none⟩ = some (.slice la2 ln2 lc2) := by rw [← hW]; exact ⟨by simp [go_sem], by simp [go_sem], by simp [go_sem], by simp [go_sem], by simp [go_sem], by simp [go_sem], by simp [go_sem]⟩
        have TW : Hid (Two w W p g p' g' x q q) := by rw [← hW]; exact T5.out.later ((Below.refl _ _).alloc (Nat.le_refl _) _)
        have NE : Hid (¬ w5.heap.size = g ∧ ¬ w5.heap.size = g') := by
          have lg := World.block_lt_of_cell? _ _ (T5.out.a.a.s 0 (by simp)).1
          have lg' := World.block_lt_of_cell? _ _ (T5.out.b.a.s 0 (by simp)).1
          simp only at lg lg'
          exact ⟨by omega, by omega⟩
        rw [hW]
        clear hW T5
        generalize w5.heap.size = M at *
        go_region_held3 (fun w' => w'.cell? ⟨M, 0, none⟩ = some (.int .i64 2) ∧ w'.cell? ⟨M, 1, none⟩ = some (.int .i64 9) ∧ w'.cell? ⟨M, 2, none⟩ = some (.int .i64 s) ∧ w'.cell? ⟨M, 3, none⟩ = some (.string ⟨#[]⟩) ∧ w'.cell? ⟨M, 4, none⟩ = some (.string tg) ∧ w'.cell? ⟨M, 5, none⟩ = some (.slice la ln lc) ∧ w'.cell? ⟨M, 6, none⟩ = some (.slice la2 ln2 lc2)) (first | exact S0 | assumption) (first | (revert CA; intro CA; go_at_call 14; refine Calls.mono (CA.out _ (by first | exact TW.out | exact TW.out.later (Below.refl _ _).drew)) ?_; rintro e w6 ⟨rfl, h6, b6⟩; have S6 : w6.cell? ⟨M, 0, none⟩ = some (.int .i64 2) ∧ w6.cell? ⟨M, 1, none⟩ = some (.int .i64 9) ∧ w6.cell? ⟨M, 2, none⟩ = some (.int .i64 s) ∧ w6.cell? ⟨M, 3, none⟩ = some (.string ⟨#[]⟩) ∧ w6.cell? ⟨M, 4, none⟩ = some (.string tg) ∧ w6.cell? ⟨M, 5, none⟩ = some (.slice la ln lc) ∧ w6.cell? ⟨M, 6, none⟩ = some (.slice la2 ln2 lc2) := Sev.apart S0 (Bf.trans (Bf.of (Below.refl _ _).drew) b6) NE.out.1; have T6 : Hid (Two w w6 p g p' g' x q1 q) := h6; clear CA h6 b6) | (revert CB; intro CB; go_at_call 14; refine Calls.mono (CB.out _ T6.out) ?_; rintro e w7 ⟨rfl, h7, b7⟩; have S7 : w7.cell? ⟨M, 0, none⟩ = some (.int .i64 2) ∧ w7.cell? ⟨M, 1, none⟩ = some (.int .i64 9) ∧ w7.cell? ⟨M, 2, none⟩ = some (.int .i64 s) ∧ w7.cell? ⟨M, 3, none⟩ = some (.string ⟨#[]⟩) ∧ w7.cell? ⟨M, 4, none⟩ = some (.string tg) ∧ w7.cell? ⟨M, 5, none⟩ = some (.slice la ln lc) ∧ w7.cell? ⟨M, 6, none⟩ = some (.slice la2 ln2 lc2) := Sev.apart S6 b7 NE.out.2; have T7 : Hid (Two w w7 p g p' g' x q1 q1) := h7; clear CB h7 b7))
        clear S7 S6 S0 TW T6 NE
        go_wp2
        go_roundw
        case rel => exact ⟨k + 1, x, q1, by omega, by go_num, T7.out⟩
        case measure => simp [intOf]; omega
      · have g3 : ¬ (k : Int) < (n2 : Int) := by omega
        have T : Hid (Two w wr p g p' g' x q q) := I
        have C2 : Hid True := trivial
        clear I
        have c1 := C0.out _ T.out.a.b
        clear C0 C2
        go_wp2_with fail
        refine Calls.mono (SG.out s _ S1.out.1 S1.out.2 T.out.a.k) ?_
        rintro e w5 ⟨tg, la, ln, lc, la2, ln2, lc2, rfl, htg, LL, hb⟩
        have T5 : Hid (Two w w5 p g p' g' x q q) := T.out.later hb
        obtain ⟨E, hE⟩ : ∃ E : Int, (if s ≤ q then (170 : Int) else 0) = E := ⟨_, rfl⟩
        obtain ⟨q1, hq1⟩ : ∃ q1 : Int, (if s ≤ q then q else s) = q1 := ⟨_, rfl⟩
        have CA : Hid (∀ w2, Two w w2 p g p' g' x q q → Calls Tryd.prog 14 #[.pointer (some ⟨p, 0, none⟩), .agg #[.int .i64 2, .int .i64 9, .int .i64 s, .string ⟨#[]⟩, .string tg, .slice la ln lc, .slice la2 ln2 lc2]] w2 fun e w' => e = .returned (.int .i64 E) ∧ Two w w' p g p' g' x q1 q ∧ Bf (fun y => y = g) w2 w') := fun w2 T => by
          refine Calls.mono (Admit_any p g _ 2 9 s ⟨#[]⟩ tg la ln lc la2 ln2 lc2 [] [] (by rw [htg, tgM_size]; omega) w2 T.a.a (lists_none LL w2) T.a.k) ?_
          rintro e w' ⟨rfl, ha, hb⟩
          have z := ad_two (x := x) (q := q) S1.out.1 S1.out.2
          rw [hE, hq1] at z
          have e0' : (⟨2, 9, s, ⟨#[]⟩, tg, [], []⟩ : Ml) = pl kk 9 s := by rw [htg]; rfl
          rw [e0', z.2] at ha
          rw [e0', z.1]
          exact ⟨rfl, T.stepA ha hb, hb⟩
        have CB : Hid (∀ w2, Two w w2 p g p' g' x q1 q → Calls Tryd.prog 14 #[.pointer (some ⟨p', 0, none⟩), .agg #[.int .i64 2, .int .i64 9, .int .i64 s, .string ⟨#[]⟩, .string tg, .slice la ln lc, .slice la2 ln2 lc2]] w2 fun e w' => e = .returned (.int .i64 E) ∧ Two w w' p g p' g' x q1 q1 ∧ Bf (fun y => y = g') w2 w') := fun w2 T => by
          refine Calls.mono (Admit_any p' g' _ 2 9 s ⟨#[]⟩ tg la ln lc la2 ln2 lc2 [] [] (by rw [htg, tgM_size]; omega) w2 T.b.a (lists_none LL w2) T.b.k) ?_
          rintro e w' ⟨rfl, ha, hb⟩
          have z := ad_one (key := kk) (u := 9) (s := s) (q := q) (by decide) (by decide) S1.out.1 S1.out.2
          rw [hE, hq1] at z
          have e0' : (⟨2, 9, s, ⟨#[]⟩, tg, [], []⟩ : Ml) = pl kk 9 s := by rw [htg]; rfl
          rw [e0', z.2] at ha
          rw [e0', z.1]
          exact ⟨rfl, T.stepB ha hb, hb⟩
        clear hE hq1 htg LL hb T c1 z1 z2 z3 z4 z5 hr' SG
        go_wp2_with fail
        obtain ⟨W, hW⟩ : ∃ W, w5.alloc (.cells #[.int .i64 2, .int .i64 9, .int .i64 s, .string ⟨#[]⟩, .string tg, .slice la ln lc, .slice la2 ln2 lc2] 38) = W := ⟨_, rfl⟩
        have S0 : W.cell? ⟨w5.heap.size, 0, none⟩ = some (.int .i64 2) ∧ W.cell? ⟨w5.heap.size, 1, none⟩ = some (.int .i64 9) ∧ W.cell? ⟨w5.heap.size, 2, none⟩ = some (.int .i64 s) ∧ W.cell? ⟨w5.heap.size, 3, none⟩ = some (.string ⟨#[]⟩) ∧ W.cell? ⟨w5.heap.size, 4, none⟩ = some (.string tg) ∧ W.cell? ⟨w5.heap.size, 5, none⟩ = some (.slice la ln lc) ∧ W.cell? ⟨w5.heap.size, 6, none⟩ = some (.slice la2 ln2 lc2) := by rw [← hW]; exact ⟨by simp [go_sem], by simp [go_sem], by simp [go_sem], by simp [go_sem], by simp [go_sem], by simp [go_sem], by simp [go_sem]⟩
        have TW : Hid (Two w W p g p' g' x q q) := by rw [← hW]; exact T5.out.later ((Below.refl _ _).alloc (Nat.le_refl _) _)
        have NE : Hid (¬ w5.heap.size = g ∧ ¬ w5.heap.size = g') := by
          have lg := World.block_lt_of_cell? _ _ (T5.out.a.a.s 0 (by simp)).1
          have lg' := World.block_lt_of_cell? _ _ (T5.out.b.a.s 0 (by simp)).1
          simp only at lg lg'
          exact ⟨by omega, by omega⟩
        rw [hW]
        clear hW T5
        generalize w5.heap.size = M at *
        go_region_held3 (fun w' => w'.cell? ⟨M, 0, none⟩ = some (.int .i64 2) ∧ w'.cell? ⟨M, 1, none⟩ = some (.int .i64 9) ∧ w'.cell? ⟨M, 2, none⟩ = some (.int .i64 s) ∧ w'.cell? ⟨M, 3, none⟩ = some (.string ⟨#[]⟩) ∧ w'.cell? ⟨M, 4, none⟩ = some (.string tg) ∧ w'.cell? ⟨M, 5, none⟩ = some (.slice la ln lc) ∧ w'.cell? ⟨M, 6, none⟩ = some (.slice la2 ln2 lc2)) (first | exact S0 | assumption) (first | (revert CA; intro CA; go_at_call 14; refine Calls.mono (CA.out _ (by first | exact TW.out | exact TW.out.later (Below.refl _ _).drew)) ?_; rintro e w6 ⟨rfl, h6, b6⟩; have S6 : w6.cell? ⟨M, 0, none⟩ = some (.int .i64 2) ∧ w6.cell? ⟨M, 1, none⟩ = some (.int .i64 9) ∧ w6.cell? ⟨M, 2, none⟩ = some (.int .i64 s) ∧ w6.cell? ⟨M, 3, none⟩ = some (.string ⟨#[]⟩) ∧ w6.cell? ⟨M, 4, none⟩ = some (.string tg) ∧ w6.cell? ⟨M, 5, none⟩ = some (.slice la ln lc) ∧ w6.cell? ⟨M, 6, none⟩ = some (.slice la2 ln2 lc2) := Sev.apart S0 (Bf.trans (Bf.of (Below.refl _ _).drew) b6) NE.out.1; have T6 : Hid (Two w w6 p g p' g' x q1 q) := h6; clear CA h6 b6) | (revert CB; intro CB; go_at_call 14; refine Calls.mono (CB.out _ T6.out) ?_; rintro e w7 ⟨rfl, h7, b7⟩; have S7 : w7.cell? ⟨M, 0, none⟩ = some (.int .i64 2) ∧ w7.cell? ⟨M, 1, none⟩ = some (.int .i64 9) ∧ w7.cell? ⟨M, 2, none⟩ = some (.int .i64 s) ∧ w7.cell? ⟨M, 3, none⟩ = some (.string ⟨#[]⟩) ∧ w7.cell? ⟨M, 4, none⟩ = some (.string tg) ∧ w7.cell? ⟨M, 5, none⟩ = some (.slice la ln lc) ∧ w7.cell? ⟨M, 6, none⟩ = some (.slice la2 ln2 lc2) := Sev.apart S6 b7 NE.out.2; have T7 : Hid (Two w w7 p g p' g' x q1 q1) := h7; clear CB h7 b7))
        clear S7 S6 S0 TW T6 NE
        go_wp2
        go_roundw
        case rel => exact ⟨k + 1, x, q1, by omega, by go_num, T7.out⟩
        case measure => simp [intOf]; omega
    · rcases (by omega : ¬ k < n ∨ (k < n ∧ ¬ k < 40)) with h | h
      · have g1 : ¬ (k : Int) < (n : Int) := by omega
        clear hlt h
        have CL : Hid (Calls Tryd.prog 17 #[.pointer (some ⟨p, 0, none⟩), .int .i64 9] wr fun e w' => e = .returned (.tuple #[.int .i64 q, .int .i64 0]) ∧ Below wr.heap.size wr w') := by
          have h := Last_any p g _ 9 wr I.out.a.a
          rw [(laTwo x q).1, (laTwo x q).2] at h
          exact h
        go_wp2_with fail
        refine Calls.mono CL.out ?_
        rintro e w5 ⟨rfl, hb⟩
        have T5 : Hid (Two w w5 p g p' g' x q q) := I.out.later hb
        have CM : Hid (Calls Tryd.prog 17 #[.pointer (some ⟨p', 0, none⟩), .int .i64 9] w5 fun e w' => e = .returned (.tuple #[.int .i64 q, .int .i64 0]) ∧ Below w5.heap.size w5 w') := by
          have h := Last_any p' g' _ 9 w5 T5.out.b.a
          rw [(laOne q).1, (laOne q).2] at h
          exact h
        clear hb CL I
        go_wp2_with fail
        refine Calls.mono CM.out ?_
        rintro e w6 ⟨rfl, hb⟩
        have T6 : Hid (Two w w6 p g p' g' x q q) := T5.out.later hb
        clear hb CM T5
        go_wp2
        go_ret
        exact ⟨rfl, T6.out.a.b⟩
      · have g2 : ¬ (k : Int) < 40 := by omega
        have g1 : (k : Int) < (n : Int) := by omega
        clear hlt h
        have CL : Hid (Calls Tryd.prog 17 #[.pointer (some ⟨p, 0, none⟩), .int .i64 9] wr fun e w' => e = .returned (.tuple #[.int .i64 q, .int .i64 0]) ∧ Below wr.heap.size wr w') := by
          have h := Last_any p g _ 9 wr I.out.a.a
          rw [(laTwo x q).1, (laTwo x q).2] at h
          exact h
        go_wp2_with fail
        refine Calls.mono CL.out ?_
        rintro e w5 ⟨rfl, hb⟩
        have T5 : Hid (Two w w5 p g p' g' x q q) := I.out.later hb
        have CM : Hid (Calls Tryd.prog 17 #[.pointer (some ⟨p', 0, none⟩), .int .i64 9] w5 fun e w' => e = .returned (.tuple #[.int .i64 q, .int .i64 0]) ∧ Below w5.heap.size w5 w') := by
          have h := Last_any p' g' _ 9 w5 T5.out.b.a
          rw [(laOne q).1, (laOne q).2] at h
          exact h
        clear hb CL I
        go_wp2_with fail
        refine Calls.mono CM.out ?_
        rintro e w6 ⟨rfl, hb⟩
        have T6 : Hid (Two w w6 p g p' g' x q q) := T5.out.later hb
        clear hb CM T5
        go_wp2
        go_ret
        exact ⟨rfl, T6.out.a.b⟩
end Go.Proofs.YtbogoheigbiegaaDoor.Gat
