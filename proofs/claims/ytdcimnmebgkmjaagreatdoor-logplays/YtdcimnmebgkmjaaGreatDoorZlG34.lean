/- Parts: LzA, LzB. -/
import Derived.Test.YtdcimnmebgkmjaaGreatDoorZlG33
namespace Go.Proofs.YtdcimnmebgkmjaaGreatDoor
open Go.RowKit Go.Proofs.Fd Go.Proofs.Dk Go.Proofs.Lg
set_option maxRecDepth 20000
theorem bgn_len (s : St) (k H g : Nat) (ts : List Bs) : (bgn s k H g ts).2.l.length ≤ s.l.length + H + sns ts + 1 := by
  unfold bgn
  have c := cln_len s k H
  by_cases h1 : (cln s k H).1 = 0
  · rw [thn_ok h1]
    have p := pts_len ts (cln s k H).2 k 1 (hm g)
    by_cases h2 : (pts (cln s k H).2 k 1 (hm g) ts).1 = 0
    · rw [thn_ok h2]
      have q := syS_len (pts (cln s k H).2 k 1 (hm g) ts).2
      by_cases h3 : syE (pts (cln s k H).2 k 1 (hm g) ts).2 = 0
      · rw [thn_ok h3]
        have r := wrb_len (syS (pts (cln s k H).2 k 1 (hm g) ts).2) k (hd g)
        rw [hd_len] at r
        by_cases h4 : (wrb (syS (pts (cln s k H).2 k 1 (hm g) ts).2) k (hd g)).1 = 0
        · rw [thn_ok h4]
          have t := syS_len (wrb (syS (pts (cln s k H).2 k 1 (hm g) ts).2) k (hd g)).2
          show (syS _).l.length ≤ _
          omega
        · rw [thn_no h4]; omega
      · rw [thn_no h3]
        show (syS _).l.length ≤ _
        omega
    · rw [thn_no h2]; omega
  · rw [thn_no h1]; omega
theorem app_len (s : St) (x : Lo) (t : Bs) : (app s x t).1.2.l.length ≤ s.l.length + 40 ∧ (app s x t).1.2.n = s.n := by
  unfold app
  by_cases h1 : may t ≠ 0
  · rw [if_pos h1]; exact ⟨Nat.le_add_right _ _, rfl⟩
  · rw [if_neg h1]
    by_cases h2 : s.n / 2 < x.tk + sn t
    · rw [if_pos h2]; exact ⟨Nat.le_add_right _ _, rfl⟩
    · rw [if_neg h2]
      have r := wrb_len s (x.h * (s.n / 2) + x.tk) (rcd x.mr t)
      rw [rcd_len] at r
      have hok := may_ok (by simpa using h1)
      have hsn : sn t ≤ 40 := by unfold sn; omega
      exact ⟨by show (wrb _ _ _).2.l.length ≤ _; omega, wrb_n _ _ _⟩
theorem cmp_len (s : St) (x : Lo) (ts : List Bs) : (cmp s x ts).1.2.l.length ≤ s.l.length + s.n + 1 ∧ (cmp s x ts).1.2.n = s.n := by
  unfold cmp
  by_cases h1 : mays ts ≠ 0
  · rw [if_pos h1]; exact ⟨by show s.l.length ≤ _; omega, rfl⟩
  · rw [if_neg h1]
    by_cases h2 : s.n / 2 - 1 < sns ts
    · rw [if_pos h2]; exact ⟨by show s.l.length ≤ _; omega, rfl⟩
    · rw [if_neg h2]
      by_cases h3 : 2147483647 ≤ x.g
      · rw [if_pos h3]; exact ⟨by show s.l.length ≤ _; omega, rfl⟩
      · rw [if_neg h3]
        have := bgn_len s ((1 - x.h) * (s.n / 2)) (s.n / 2) (x.g + 1) ts
        exact ⟨by show (bgn _ _ _ _ _).2.l.length ≤ _; omega, bgn_n _ _ _ _ _⟩
theorem rben4 (n : Nat) : ben n 4 = [UInt8.ofNat (n / 16777216), UInt8.ofNat (n / 65536), UInt8.ofNat (n / 256), UInt8.ofNat n] := by
  show [UInt8.ofNat (n / 2 ^ 24), UInt8.ofNat (n / 2 ^ 16), UInt8.ofNat (n / 2 ^ 8), UInt8.ofNat (n / 2 ^ 0)] = _
  rw [show n / 2 ^ 0 = n by simp]
structure Lz (w wr : World) (p : Nat) (F : Nat → Prop) (s : St) (q : Nat) (v : Value) (x : Lo) : Prop where
  hd_ : HD w wr p F s q (x.h * (s.n / 2)) (s.n / 2) x.g v x.ts x.tk x.mr []
  h1 : x.h ≤ 1
  n4 : 4 ≤ s.n
  n2 : s.n ≤ 1024
  tk : x.tk ≤ s.n / 2
  ok : ∀ t ∈ x.ts, 1 ≤ t.length ∧ t.length ≤ 2000
  g : x.g ≤ 2147483647
section
variable {w wr : World} {p : Nat} {F : Nat → Prop} {s : St} {q : Nat} {v : Value} {x : Lo}
theorem Lz.later (h : Lz w wr p F s q v x) {w' : World} (hb : Below wr.heap.size wr w') : Lz w w' p F s q v x := ⟨h.hd_.later hb, h.h1, h.n4, h.n2, h.tk, h.ok, h.g⟩
theorem Lz.tlen (h : Lz w wr p F s q v x) : x.ts.length ≤ 512 := by
  have h1 := tkn_ge_len x.ts
  have h2 : tkn 1 x.ts ≤ s.n / 2 := h.tk
  have h3 := h.n2
  omega
theorem Lz.fh (h : Lz w wr p F s q v x) {y : Nat} (hy : FH F q v y) : y < wr.heap.size ∧ w.heap.size ≤ y := by
  rcases hy with e | e
  · exact ⟨h.hd_.dl.at_.lt e, h.hd_.dl.new y e⟩
  · exact ⟨h.hd_.hf.lt e, (h.hd_.ap y e).2⟩
theorem Lz.other (h : Lz w wr p F s q v x) {w' : World} {G : Nat → Prop} (hb : Bf G wr w') (hG : ∀ y, FH F q v y → ¬ G y) (hw : ∀ y, G y → w.heap.size ≤ y) : Lz w w' p F s q v x :=
  ⟨⟨⟨h.hd_.dl.at_.other hb (fun y hy => hG y (.inl hy)), h.hd_.dl.new, h.hd_.dl.below.trans (hb.below hw h.hd_.dl.below.size)⟩, h.hd_.hf.bf hb (fun y hy => hG y (.inr hy)), h.hd_.ap⟩, h.h1, h.n4, h.n2, h.tk, h.ok, h.g⟩
theorem Lz.fr (h : Lz w wr p F s q v x) : x.h * (s.n / 2) ≤ 512 := by
  have := h.n2
  rcases (by have := h.h1; omega : x.h = 0 ∨ x.h = 1) with e | e
  · rw [e, Nat.zero_mul]; omega
  · rw [e, Nat.one_mul]; omega
end
def LzP (w wr : World) (p : Nat) (F : Nat → Prop) (q : Nat) (v : Value) (s : St) (x : Lo) (w' : World) : Prop := ∃ F' v', Lz w w' p F' s q v' x ∧ Nx2 wr F q v F' v' ∧ Bf (FH F q v) wr w'
theorem lzappend_any (w wr : World) (p : Nat) (F : Nat → Prop) (s : St) (q : Nat) (v : Value) (x : Lo) (X : ByteArray) (hl : s.l.length + 100 ≤ 1000000) (hk : Kh w) (h : Lz w wr p F s q v x) :
    Calls Tryz.prog 21 #[.pointer (some ⟨q, 0, none⟩), .string X] wr fun e w' => e = .returned (.int .i64 (app s x X.data.toList).1.1) ∧ LzP w wr p F q v (app s x X.data.toList).1.2 (app s x X.data.toList).2 w' := by
  have hn2 := h.n2
  have hfr := h.fr
  have e1 : (app s x X.data.toList).1 = apR s (x.h * (s.n / 2)) (s.n / 2) x.tk x.mr X.data.toList := by
    unfold app apR
    by_cases h1 : may X.data.toList ≠ 0
    · rw [if_pos h1, if_pos h1]
    · rw [if_neg h1, if_neg h1]
      by_cases h2 : s.n / 2 < x.tk + sn X.data.toList
      · rw [if_pos h2, if_pos h2]
      · rw [if_neg h2, if_neg h2]
  have hlen := app_len s x X.data.toList
  refine (lappend_any w wr p F s q (x.h * (s.n / 2)) (s.n / 2) x.g v x.ts x.tk x.mr X (mks_len _ _ rfl) (by have := h.tlen; omega) h.tk (by omega) (by omega) hl hk h.hd_).mono ?_
  rintro e w' ⟨he, F', v', n1, b1, hh⟩
  rw [e1]
  refine ⟨he, F', v', ?_, n1, b1⟩
  rw [e1] at hlen
  obtain ⟨t, ht⟩ : ∃ t, X.data.toList = t := ⟨_, rfl⟩
  rw [ht] at e1 hh hlen ⊢
  have hsn : (apR s (x.h * (s.n / 2)) (s.n / 2) x.tk x.mr t).2.n = s.n := hlen.2
  rcases hh with ⟨c0, hh⟩ | ⟨c0, hh⟩
  · have h1 : may t = 0 := by
      by_cases c : may t = 0
      · exact c
      · exfalso
        unfold apR at c0
        rw [if_pos c] at c0
        exact c c0
    have h2 : ¬ s.n / 2 < x.tk + sn t := fun c => by
      unfold apR at c0
      rw [if_neg (by rw [h1]; simp), if_pos c] at c0
      cases c0
    have e2 : (app s x t).2 = ⟨x.h, x.g, x.ts ++ [t]⟩ := by
      have c0' : (wrb s (x.h * (s.n / 2) + x.tk) (rcd x.mr t)).1 = 0 := by
        unfold apR at c0
        rw [if_neg (by rw [h1]; simp), if_neg h2] at c0
        exact c0
      unfold app
      rw [if_neg (by rw [h1]; simp), if_neg h2]
      show (if (wrb s (x.h * (s.n / 2) + x.tk) (rcd x.mr t)).1 = 0 then _ else _) = _
      rw [if_pos c0']
    have et : (⟨x.h, x.g, x.ts ++ [t]⟩ : Lo).tk = x.tk + sn t := tkn_app x.ts 1 _
    have em : (⟨x.h, x.g, x.ts ++ [t]⟩ : Lo).mr = rmk x.mr t := mks_app x.ts (hm x.g) _
    rw [e2]
    refine ⟨?_, h.h1, by rw [hsn]; exact h.n4, by rw [hsn]; exact h.n2, by rw [et, hsn]; omega, fun u hu => ?_, h.g⟩
    · rw [et, em, hsn]
      exact hh
    · rcases List.mem_append.1 hu with hu | hu
      · exact h.ok u hu
      · rw [List.mem_singleton] at hu
        subst hu
        exact may_ok h1
  · have e2 : (app s x t).2 = x := by
      unfold app
      by_cases h1 : may t ≠ 0
      · rw [if_pos h1]
      · rw [if_neg h1]
        by_cases h2 : s.n / 2 < x.tk + sn t
        · rw [if_pos h2]
        · rw [if_neg h2]
          have c0' : (wrb s (x.h * (s.n / 2) + x.tk) (rcd x.mr t)).1 ≠ 0 := by
            unfold apR at c0
            rw [if_neg h1, if_neg h2] at c0
            exact c0
          show (if (wrb s (x.h * (s.n / 2) + x.tk) (rcd x.mr t)).1 = 0 then _ else _) = _
          rw [if_neg c0']
    rw [e2]
    exact ⟨by rw [hsn]; exact hh, h.h1, by rw [hsn]; exact h.n4, by rw [hsn]; exact h.n2, by rw [hsn]; exact h.tk, h.ok, h.g⟩
theorem lzcompact_any (w wr : World) (p : Nat) (F : Nat → Prop) (s : St) (q : Nat) (v : Value) (x : Lo) (a : Option Addr) (n c : Nat) (us : List Bs) (hn : us.length = n) (hnb : n ≤ 10000000000000) (hl : s.l.length + 4000 ≤ 1000000) (hk : Kh w) (h : Lz w wr p F s q v x) (tx : TxAt wr a us) (ap : Ap a us F) :
    Calls Tryz.prog 38 #[.pointer (some ⟨q, 0, none⟩), .slice a n c] wr fun e w' => e = .returned (.int .i64 (cmp s x us).1.1) ∧ LzP w wr p F q v (cmp s x us).1.2 (cmp s x us).2 w' := by
  have hn2 := h.n2
  have hn4 := h.n4
  have h01 : x.h = 0 ∨ x.h = 1 := by have := h.h1; omega
  have e2 : s.n / 2 - x.h * (s.n / 2) = (1 - x.h) * (s.n / 2) := by
    rcases h01 with e | e
    · rw [e, Nat.zero_mul, Nat.sub_zero, Nat.sub_zero, Nat.one_mul]
    · rw [e, Nat.one_mul, Nat.sub_self, Nat.sub_self, Nat.zero_mul]
  have e1 : (cmp s x us).1 = cmR s ((1 - x.h) * (s.n / 2)) (s.n / 2) x.g us := by
    unfold cmp cmR
    by_cases h1 : mays us ≠ 0
    · rw [if_pos h1, if_pos h1]
    · rw [if_neg h1, if_neg h1]
      by_cases h2 : s.n / 2 - 1 < sns us
      · rw [if_pos h2, if_pos h2]
      · rw [if_neg h2, if_neg h2]
        by_cases h3 : 2147483647 ≤ x.g
        · rw [if_pos h3, if_pos h3]
        · rw [if_neg h3, if_neg h3]
  have hlen := cmp_len s x us
  refine (lcompact_any w wr p F s q (x.h * (s.n / 2)) (s.n / 2) x.g v x.ts x.tk x.mr a n c us hn (by omega) (by omega) (by omega) h.g (by rcases h01 with e | e; exact .inl (by rw [e, Nat.zero_mul]); exact .inr (by rw [e, Nat.one_mul])) (by omega) hk h.hd_ tx ap).mono ?_
  rintro e w' ⟨he, F', v', n1, b1, hh⟩
  rw [e2, ← e1] at he hh
  refine ⟨he, F', v', ?_, n1, b1⟩
  have hsn : (cmp s x us).1.2.n = s.n := hlen.2
  rcases hh with ⟨c0, hh⟩ | ⟨c0, hh⟩
  · have h1 : ¬ mays us ≠ 0 := fun c => by
      unfold cmp at c0
      rw [if_pos c] at c0
      exact c c0
    have h2 : ¬ s.n / 2 - 1 < sns us := fun c => by
      unfold cmp at c0
      rw [if_neg h1, if_pos c] at c0
      cases c0
    have h3 : ¬ 2147483647 ≤ x.g := fun c => by
      unfold cmp at c0
      rw [if_neg h1, if_neg h2, if_pos c] at c0
      cases c0
    have e3 : (cmp s x us).2 = ⟨1 - x.h, x.g + 1, us⟩ := by
      have c0' : (bgn s ((1 - x.h) * (s.n / 2)) (s.n / 2) (x.g + 1) us).1 = 0 := by
        unfold cmp at c0
        rw [if_neg h1, if_neg h2, if_neg h3] at c0
        exact c0
      unfold cmp
      rw [if_neg h1, if_neg h2, if_neg h3]
      show (if (bgn s ((1 - x.h) * (s.n / 2)) (s.n / 2) (x.g + 1) us).1 = 0 then _ else _) = _
      rw [if_pos c0']
    rw [e3]
    refine ⟨by rw [hsn]; exact hh, by show 1 - x.h ≤ 1; omega, by rw [hsn]; exact h.n4, by rw [hsn]; exact h.n2, ?_, mays_all (by simpa using h1), by show x.g + 1 ≤ _; omega⟩
    rw [hsn]
    show tkn 1 us ≤ _
    rw [tkn_sns]
    omega
  · have e3 : (cmp s x us).2 = x := by
      unfold cmp
      by_cases h1 : mays us ≠ 0
      · rw [if_pos h1]
      · rw [if_neg h1]
        by_cases h2 : s.n / 2 - 1 < sns us
        · rw [if_pos h2]
        · rw [if_neg h2]
          by_cases h3 : 2147483647 ≤ x.g
          · rw [if_pos h3]
          · rw [if_neg h3]
            have c0' : (bgn s ((1 - x.h) * (s.n / 2)) (s.n / 2) (x.g + 1) us).1 ≠ 0 := by
              unfold cmp at c0
              rw [if_neg h1, if_neg h2, if_neg h3] at c0
              exact c0
            show (if (bgn s ((1 - x.h) * (s.n / 2)) (s.n / 2) (x.g + 1) us).1 = 0 then _ else _) = _
            rw [if_neg c0']
    rw [e3]
    exact ⟨by rw [hsn]; exact hh, h.h1, by rw [hsn]; exact h.n4, by rw [hsn]; exact h.n2, by rw [hsn]; exact h.tk, h.ok, h.g⟩
theorem lzsync_any (w wr : World) (p : Nat) (F : Nat → Prop) (s : St) (q : Nat) (v : Value) (x : Lo) (hl : s.l.length ≤ 1000000) (h : Lz w wr p F s q v x) :
    Calls Tryz.prog 22 #[.pointer (some ⟨q, 0, none⟩)] wr fun e w' => e = .returned (.int .i64 (syE s)) ∧ LzP w wr p F q v (syS s) x w' := by
  refine (lsyncl_any w wr p F s q _ _ x.g v x.ts x.tk x.mr [] hl h.hd_).mono ?_
  rintro e w' ⟨he, F', d1, d2, d3⟩
  have hn := syS_n s
  exact ⟨he, F', v, ⟨by rw [hn]; exact h.hd_.disk d1 d2 d3, h.h1, by rw [hn]; exact h.n4, by rw [hn]; exact h.n2, by rw [hn]; exact h.tk, h.ok, h.g⟩, ⟨d2, Nx.refl _ _⟩, d3.wide fun _ c => .inl c⟩
theorem lopen_all (w w0 : World) (p : Nat) (F0 : Nat → Prop) (s : St) (hl : s.l.length + 2000 ≤ 1000000) (hk : Hid (Kh w)) (D : Hid (Dl w w0 p F0 s)) :
    Calls Tryz.prog 20 #[.pointer (some ⟨p, 0, none⟩)] w0 fun e w' => OpP w w0 p F0 (s.n / 2) (opn s).1 (opn s).2 e w' := by
  by_cases h : s.n / 2 < 2
  · have e : opn s = ((4, s), ⟨0, 0, []⟩) := by unfold opn; rw [if_pos h]
    rw [e]
    refine (lopen_small w w0 p F0 s h D).mono ?_
    rintro e w' ⟨he, rfl⟩
    exact ⟨F0, D.out, Nx.refl _ _, Bf.refl _ _, .inr ⟨(show (4 : Int) ≠ 0 by decide), he⟩⟩
  · exact lopen_any w w0 p F0 s (by omega) hl hk D
theorem opn_ok {s : St} (h : (opn s).1.1 = 0) (hOk : Ok s) : 4 ≤ s.n ∧ (opn s).2.h ≤ 1 ∧ (opn s).1.2.n = s.n ∧ (opn s).2.tk ≤ s.n / 2 ∧ (opn s).2.g ≤ 2147483647 ∧ ∀ t ∈ (opn s).2.ts, 1 ≤ t.length ∧ t.length ≤ 2000 := by
  have og := opn_le s
  unfold opn at h og ⊢
  by_cases h1 : s.n / 2 < 2
  · rw [if_pos h1] at h; cases h
  · rw [if_neg h1] at h og ⊢
    by_cases h2 : s.down = true
    · rw [if_pos h2] at h; cases h
    · rw [if_neg h2] at h og ⊢
      by_cases h3 : (use s).2 = 0
      · rw [if_pos h3] at og ⊢
        exact ⟨by omega, by show (0 : Nat) ≤ 1; decide, bgn_n _ _ _ _ _, by show 1 ≤ s.n / 2; omega, og, nofun⟩
      · rw [if_neg h3] at og ⊢
        have hl : ((hb s ((use s).1 * (s.n / 2)) (s.n / 2)).drop 64).length = 64 * (s.n / 2 - 1) := by rw [List.length_drop, hb_len hOk]; omega
        have hfit := scan_fits.scan_le 0 [] (s.n / 2) (s.n / 2 - 1) ((hb s ((use s).1 * (s.n / 2)) (s.n / 2)).drop 64) (hm (use s).2) 1 hl
        refine ⟨by omega, ?_, cln_n _ _ _, ?_, og, fun t ht => scan_fits.scan_ok _ _ _ t ht⟩
        · show (use s).1 ≤ 1
          unfold use
          split
          · exact Nat.le_refl 1
          · exact Nat.zero_le 1
        · show tkn 1 (recs s _ _ _) ≤ s.n / 2
          unfold recs
          omega
end Go.Proofs.YtdcimnmebgkmjaaGreatDoor
namespace Go.Proofs.YtdcimnmebgkmjaaGreatDoor
open Go.RowKit Go.Proofs.Fd Go.Proofs.Dk Go.Proofs.Lg
set_option maxRecDepth 20000
structure Clo (P : Bs → Prop) : Prop where
  zr : P (zr 64)
  mix : ∀ {p : Nat} {a b : Bs}, P a → P b → a.length = 64 → P (mix p a b)
theorem getD_mix {p i : Nat} {a b : Bs} (la : a.length = 64) (hi : i < 64) : (mix p a b).getD i 0 = if i < p then a.getD i 0 else b.getD i 0 := by
  unfold mix
  by_cases hp : i < p
  · rw [if_pos hp, List.getD_eq_getElem?_getD, List.getD_eq_getElem?_getD, List.getElem?_append_left (by rw [List.length_take]; omega), List.getElem?_take_of_lt hp]
  · rw [if_neg hp, List.getD_eq_getElem?_getD, List.getD_eq_getElem?_getD, List.getElem?_append_right (by rw [List.length_take]; omega), List.length_take, List.getElem?_drop, show p + (i - min p a.length) = i by omega]
def Hd4 (b : Bs) : Prop := (b.getD 4 0).toNat < 128
theorem hd4_hd {g : Nat} (h : g ≤ 2147483647) : Hd4 (hd g) := by
  have e : hd g = [76, 79, 71, 0] ++ (ben g 4 ++ (hm g ++ zr ((64 - (hf g ++ hm g).length % 64) % 64))) := by simp [hd, pdd, hf]
  unfold Hd4
  rw [e, rben4]
  show (UInt8.ofNat (g / 16777216)).toNat < 128
  rw [UInt8.toNat_ofNat']
  omega
theorem cl4 : Clo Hd4 := by
  refine ⟨by unfold Hd4 Lg.zr; decide, fun {p a b} ha hb la => ?_⟩
  unfold Hd4 at *
  rw [getD_mix la (by decide)]
  split
  · exact ha
  · exact hb
def Hd7 (N : Nat) (b : Bs) : Prop := b.getD 4 0 = 0 ∧ b.getD 5 0 = 0 ∧ b.getD 6 0 = 0 ∧ (b.getD 7 0).toNat ≤ N
theorem Hd7.mono {N M : Nat} (h : N ≤ M) {b : Bs} (k : Hd7 N b) : Hd7 M b := ⟨k.1, k.2.1, k.2.2.1, Nat.le_trans k.2.2.2 h⟩
def Bg (n k : Nat) : Prop := k = 0 ∨ k = n / 2
structure Hp (P : Bs → Prop) (s : St) : Prop where
  f : ∀ k, Bg s.n k → P (s.f k)
  l : ∀ x ∈ s.l, Bg s.n x.k → P x.b
theorem Hp.imp {P Q : Bs → Prop} {s : St} (h : Hp P s) (k : ∀ b, P b → Q b) : Hp Q s := ⟨fun i hi => k _ (h.f i hi), fun x hx hb => k _ (h.l x hx hb)⟩
abbrev Hh (s : St) : Prop := Hp Hd4 s
section
variable {P : Bs → Prop}
theorem lay_hp : ∀ (l : List Wt) (f : Nat → Bs) (k : Nat), P (f k) → (∀ x ∈ l, x.k = k → P x.b) → P (lay f l k)
  | [], _, _, h, _ => h
  | x :: l, f, k, h, hl => by
    refine lay_hp l _ k ?_ (fun y hy => hl y (List.mem_cons_of_mem _ hy))
    unfold upd
    split
    · rename_i e
      exact hl x (List.mem_cons_self ..) e.symm
    · exact h
theorem Hp.sh {s : St} (h : Hp P s) {k : Nat} (hk : Bg s.n k) : P (s.sh k) := lay_hp _ _ k (h.f k hk) (fun x hx e => h.l x hx (by rw [e]; exact hk))
theorem tear_hp (cl : Clo P) (ps : List Int) : ∀ (l : List Wt) (f : Nat → Bs) (i k : Nat), (∀ k, (f k).length = 64) → (∀ x ∈ l, x.b.length = 64) → P (f k) → (∀ x ∈ l, x.k = k → P x.b) → P (tear ps f l i k)
  | [], _, _, _, _, _, h, _ => h
  | x :: l, f, i, k, hf, hl, h, hk => by
    refine tear_hp cl ps l _ _ k (upd_64 hf _ (mix_len (pkAt_lt ps i) (hl x (List.mem_cons_self ..)) (hf _))) (fun y hy => hl y (List.mem_cons_of_mem _ hy)) ?_ (fun y hy => hk y (List.mem_cons_of_mem _ hy))
    unfold upd
    split
    · rename_i e
      rw [← e]
      exact cl.mix (hk x (List.mem_cons_self ..) e.symm) h (hl x (List.mem_cons_self ..))
    · exact h
theorem Hp.crash (cl : Clo P) {s : St} (h : Hp P s) (ok : Ok s) (ps : List Int) : Hp P (crS s ps) :=
  ⟨fun k hk => tear_hp cl ps s.l s.f 0 k ok.f64 (fun x hx => (ok.wk x hx).2) (h.f k hk) (fun x hx e => h.l x hx (by rw [e]; exact hk)), nofun⟩
theorem Hp.fuse {s : St} (h : Hp P s) (n : Int) : Hp P (fuS s n) := by
  unfold fuS
  split
  · exact h
  · split
    · exact h
    · exact ⟨h.f, h.l⟩
theorem Hp.sync {s : St} (h : Hp P s) : Hp P (syS s) := by
  unfold syS
  split
  · exact h
  · split
    · exact ⟨h.f, h.l⟩
    · exact ⟨fun k hk => h.sh hk, nofun⟩
theorem Hp.write {s : St} (h : Hp P s) (k : Nat) (b : Bs) (hb : Bg s.n k → P b) : Hp P (wrS s (k : Int) b) := by
  unfold wrS
  split
  · exact h
  · split
    · exact h
    · split
      · exact ⟨h.f, h.l⟩
      · refine ⟨h.f, fun x hx hx2 => ?_⟩
        rcases List.mem_append.1 hx with hx | hx
        · exact h.l x hx hx2
        · rw [List.mem_singleton] at hx
          subst hx
          rw [Int.toNat_natCast] at hx2
          exact hb hx2
theorem Hp.thn {z : Int × St} {f : St → Int × St} (h : Hp P z.2) (hf : ∀ s, Hp P s → s.n = z.2.n → Hp P (f s).2) : Hp P (thn z f).2 := by
  by_cases h0 : z.1 = 0
  · rw [thn_ok h0]; exact hf _ h rfl
  · rw [thn_no h0]; exact h
theorem Hp.wrs : ∀ (bs : List Bs) (s : St) (k : Nat), Hp P s → (∀ j, j < bs.length → ¬ Bg s.n (k + j)) → Hp P (wrs s k bs).2
  | [], _, _, h, _ => h
  | b :: bs, s, k, h, hk => by
    rw [Lg.wrs]
    refine Hp.thn (z := (wrE s (k : Int) b, wrS s (k : Int) b)) (h.write k b (fun c => absurd c (hk 0 (by simp)))) (fun s' h' hn => ?_)
    have hn' : s'.n = s.n := hn.trans (wrS_n s _ b)
    exact Hp.wrs bs s' (k + 1) h' (fun j hj => by rw [hn', show k + 1 + j = k + (j + 1) by omega]; exact hk (j + 1) (by simpa using hj))
theorem Hp.wrb {s : St} (h : Hp P s) (k : Nat) (b : Bs) (hk : ∀ j, j < b.length / 64 → ¬ Bg s.n (k + j)) : Hp P (wrb s k b).2 := Hp.wrs _ s k h (fun j hj => hk j (by rw [chs_len] at hj; exact hj))
theorem Hp.cls (cl : Clo P) : ∀ (m : Nat) (s : St) (k : Nat) (d : Bool), Hp P s → Hp P (cls s k m d).2
  | 0, s, k, d, h => by
    rw [Lg.cls]
    split
    · exact h.sync
    · exact h
  | m + 1, s, k, d, h => by
    rw [Lg.cls]
    split
    · exact Hp.cls cl m s _ d h
    · exact Hp.thn (z := (wrE s (k : Int) (Lg.zr 64), wrS s (k : Int) (Lg.zr 64))) (h.write k _ (fun _ => cl.zr)) (fun s' h' _ => Hp.cls cl m s' _ true h')
theorem Hp.cln (cl : Clo P) {s : St} (h : Hp P s) (k m : Nat) : Hp P (cln s k m).2 := by
  unfold Lg.cln
  split
  · exact h
  · exact Hp.cls cl m s k false h
theorem half_in {n h tk m j : Nat} (hh : h ≤ 1) (h1 : 1 ≤ tk) (h2 : tk + m ≤ n / 2) (hj : j < m) : ¬ Bg n (h * (n / 2) + tk + j) := by
  unfold Bg
  rcases (by omega : h = 0 ∨ h = 1) with rfl | rfl
  · rw [Nat.zero_mul]; omega
  · rw [Nat.one_mul]; omega
theorem Hp.pts {h : Nat} (hh : h ≤ 1) : ∀ (l : List Bs) (s : St) (tk : Nat) (a : Bs), Hp P s → 1 ≤ tk → tk + sns l ≤ s.n / 2 → Hp P (pts s (h * (s.n / 2)) tk a l).2
  | [], _, _, _, k, _, _ => k
  | t :: l, s, tk, a, k, h1, h2 => by
    have h2' : tk + (sn t + sns l) ≤ s.n / 2 := h2
    rw [Lg.pts]
    refine Hp.thn (k.wrb _ _ (fun j hj => half_in hh h1 (show tk + sn t ≤ s.n / 2 by omega) (by rw [rcd_len] at hj; omega))) (fun s' k' hn => ?_)
    have hn' : s'.n = s.n := hn.trans (wrb_n s _ _)
    have := Hp.pts hh l s' (tk + sn t) (rmk a t) k' (by omega) (by rw [hn']; omega)
    rw [hn'] at this
    exact this
theorem Hp.bgn (cl : Clo P) {s : St} (k : Hp P s) {h g : Nat} (hh : h ≤ 1) (hg : P (hd g)) (ts : List Bs) (hs : 1 + sns ts ≤ s.n / 2) : Hp P (bgn s (h * (s.n / 2)) (s.n / 2) g ts).2 := by
  unfold Lg.bgn
  refine Hp.thn (k.cln cl _ _) (fun s1 k1 n1 => ?_)
  have n1' : s1.n = s.n := n1.trans (cln_n _ _ _)
  have p1 := Hp.pts hh ts s1 1 (hm g) k1 (Nat.le_refl _) (by rw [n1']; exact hs)
  rw [n1'] at p1
  refine Hp.thn p1 (fun s2 k2 n2 => ?_)
  refine Hp.thn (z := (syE s2, syS s2)) k2.sync (fun s3 k3 n3 => ?_)
  have e1 := wrb_one s3 (h * (s.n / 2)) (hd g) (hd_len g)
  rw [e1]
  refine Hp.thn (z := (wrE s3 ((h * (s.n / 2) : Nat) : Int) (hd g), wrS s3 ((h * (s.n / 2) : Nat) : Int) (hd g))) (k3.write _ _ (fun _ => hg)) (fun s4 k4 _ => k4.sync)
theorem Hp.app {s : St} (k : Hp P s) {x : Lo} (hh : x.h ≤ 1) (t : Bs) : Hp P (app s x t).1.2 := by
  unfold Lg.app
  split
  · exact k
  · split
    · exact k
    · rename_i h2
      have h1 : 1 ≤ x.tk := tkn_ge x.ts 1
      exact k.wrb _ _ (fun j hj => half_in hh h1 (show x.tk + sn t ≤ s.n / 2 by omega) (by rw [rcd_len] at hj; omega))
theorem Hp.cmp (cl : Clo P) {s : St} (k : Hp P s) {x : Lo} (hg : x.g < 2147483647 → P (hd (x.g + 1))) (hh : x.h ≤ 1) (hn : 4 ≤ s.n) (ts : List Bs) : Hp P (cmp s x ts).1.2 := by
  unfold Lg.cmp
  split
  · exact k
  · split
    · exact k
    · rename_i h2
      split
      · exact k
      · rename_i h3
        exact k.bgn cl (by omega) (hg (by omega)) ts (by omega)
end
theorem gen_same {s : St} (ok : Ok s) {k : Nat} {H : Nat} (hH : 1 ≤ H) : genr (s.sh k) = gen (hb s k H) := by
  have l64 := ok.sh64 k
  obtain ⟨m, rfl⟩ : ∃ m, H = 1 + m := ⟨H - 1, by omega⟩
  have e1 : hb s k 1 = s.sh k := by simp [hb]
  rw [hb_app, e1]
  obtain ⟨b, hbb⟩ : ∃ b, s.sh k = b := ⟨_, rfl⟩
  rw [hbb] at l64 ⊢
  obtain ⟨r, hr⟩ : ∃ r, hb s (k + 1) m = r := ⟨_, rfl⟩
  rw [hr]
  have e4 : ((b ++ r).drop 4).take 4 = (b.drop 4).take 4 := by
    rw [List.drop_append_of_le_length (by omega), List.take_append_of_le_length (by rw [List.length_drop]; omega)]
  unfold gen genr
  rw [e4]
  obtain ⟨n, hnn⟩ : ∃ n, nm ((b.drop 4).take 4) = n := ⟨_, rfl⟩
  rw [hnn]
  have hp : (hd n).isPrefixOf (b ++ r) = true ↔ b = hd n := by
    rw [List.isPrefixOf_iff_prefix]
    constructor
    · rintro ⟨t, ht⟩
      have := congrArg (List.take 64) ht
      rw [List.take_left' (hd_len n), List.take_left' l64] at this
      exact this.symm
    · intro e
      rw [e]
      exact List.prefix_append _ _
  by_cases hb2 : b = hd n
  · by_cases hn : n ≤ 2147483647
    · by_cases h0 : n < 1
      · rw [if_pos (.inl h0), if_pos ⟨hn, hp.2 hb2⟩]
        omega
      · rw [if_neg (by rintro (c | c | c); omega; omega; exact c hb2), if_pos ⟨hn, hp.2 hb2⟩]
    · rw [if_pos (.inr (.inl (by omega))), if_neg (fun c => hn c.1)]
  · rw [if_pos (.inr (.inr hb2)), if_neg (fun c => hb2 (hp.1 c.2))]
theorem opn_same {s : St} (ok : Ok s) : opnr s = opn s := by
  unfold opnr opn
  by_cases h1 : s.n / 2 < 2
  · rw [if_pos h1, if_pos h1]
  · rw [if_neg h1, if_neg h1]
    have e0 := gen_same ok (k := 0) (H := s.n / 2) (by omega)
    have eH := gen_same ok (k := s.n / 2) (H := s.n / 2) (by omega)
    have eu : user s = use s := by
      unfold user use
      rw [e0, eH]
    rw [eu]
theorem Hp.opn {P : Bs → Prop} (cl : Clo P) (hg : P (hd 1)) {s : St} (h : Hp P s) : Hp P (opn s).1.2 := by
  unfold Lg.opn
  by_cases h1 : s.n / 2 < 2
  · rw [if_pos h1]; exact h
  · rw [if_neg h1]
    by_cases h2 : s.down = true
    · rw [if_pos h2]; exact h
    · rw [if_neg h2]
      by_cases h3 : (use s).2 = 0
      · rw [if_pos h3]
        have := h.bgn cl (h := 0) (g := 1) (by decide) hg [] (by show 1 + 0 ≤ _; omega)
        rw [Nat.zero_mul] at this
        exact this
      · rw [if_neg h3]
        exact h.cln cl _ _
structure Kp (s s' : St) (m : Nat) : Prop where
  n : s'.n = s.n
  h : Hh s → Hh s'
  l : s'.l.length ≤ s.l.length + m
theorem Kp.refl (s : St) (m : Nat) : Kp s s m := ⟨rfl, id, Nat.le_add_right _ _⟩
theorem kp_app {s : St} {x : Lo} (hh : x.h ≤ 1) (t : Bs) : Kp s (app s x t).1.2 40 := ⟨(app_len s x t).2, fun k => k.app hh t, (app_len s x t).1⟩
theorem kp_cmp {s : St} {x : Lo} (hh : x.h ≤ 1) (hn : 4 ≤ s.n) (ts : List Bs) : Kp s (cmp s x ts).1.2 (s.n + 1) := ⟨(cmp_len s x ts).2, fun k => k.cmp cl4 (fun c => hd4_hd (by omega)) hh hn ts, by have := (cmp_len s x ts).1; omega⟩
theorem kp_sync (s : St) : Kp s (syS s) 0 := ⟨syS_n s, fun k => k.sync, syS_len s⟩
theorem Kp.trans {a b c : St} {m k : Nat} (h : Kp a b m) (j : Kp b c k) : Kp a c (m + k) := ⟨j.n.trans h.n, fun z => j.h (h.h z), by have := h.l; have := j.l; omega⟩
theorem Kp.mono {a b : St} {m k : Nat} (h : Kp a b m) (hm : m ≤ k) : Kp a b k := ⟨h.n, h.h, by have := h.l; omega⟩
theorem kp_opn {s : St} (_ok : Ok s) : Kp s (opn s).1.2 (2 * s.n + 2) := by
  refine ⟨?_, fun k => k.opn cl4 (hd4_hd (by decide)), ?_⟩
  · unfold opn
    by_cases h1 : s.n / 2 < 2
    · rw [if_pos h1]
    · rw [if_neg h1]
      by_cases h2 : s.down = true
      · rw [if_pos h2]
      · rw [if_neg h2]
        by_cases h3 : (use s).2 = 0
        · rw [if_pos h3]; exact bgn_n _ _ _ _ _
        · rw [if_neg h3]; exact cln_n _ _ _
  · unfold opn
    by_cases h1 : s.n / 2 < 2
    · rw [if_pos h1]; show s.l.length ≤ _; omega
    · rw [if_neg h1]
      by_cases h2 : s.down = true
      · rw [if_pos h2]; show s.l.length ≤ _; omega
      · rw [if_neg h2]
        by_cases h3 : (use s).2 = 0
        · rw [if_pos h3]
          have := bgn_len s 0 (s.n / 2) 1 []
          have e : sns ([] : List Bs) = 0 := rfl
          rw [e] at this
          show (bgn s 0 (s.n / 2) 1 []).2.l.length ≤ _
          omega
        · rw [if_neg h3]
          have := cln_len s ((use s).1 * (s.n / 2) + tkn 1 (recs s ((use s).1 * (s.n / 2)) (s.n / 2) (use s).2)) (s.n / 2 - tkn 1 (recs s ((use s).1 * (s.n / 2)) (s.n / 2) (use s).2))
          show (cln s _ _).2.l.length ≤ _
          omega
theorem kp_fuse (s : St) (n : Int) : Kp s (fuS s n) 0 := by
  refine ⟨?_, fun k => k.fuse n, ?_⟩
  · unfold fuS
    split
    · rfl
    · split <;> rfl
  · unfold fuS
    split
    · exact Nat.le_refl _
    · split
      · exact Nat.le_refl _
      · exact Nat.le_refl _
end Go.Proofs.YtdcimnmebgkmjaaGreatDoor
