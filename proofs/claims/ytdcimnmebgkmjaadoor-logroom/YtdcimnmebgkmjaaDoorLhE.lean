/- Logs on a disk that is up and has no fuse: what their calls leave. -/
import Derived.Test.YtdcimnmebgkmjaaDoorLhD
namespace Go.Proofs.YtdcimnmebgkmjaaDoor
open Go.RowKit Go.Proofs.Fd Go.Proofs.Dk Go.Proofs.Lg
set_option maxRecDepth 20000

theorem bgf_head (k H g : Nat) (r : Bs) (f : Nat → Bs) : bgf k H (hd g ++ r) f k = hd g := by
  have hl : 0 < (hd g ++ r).length / 64 := by rw [List.length_append, hd_len]; omega
  have := bgf_in (k := k) (H := H) (b := hd g ++ r) f hl
  rw [Nat.add_zero] at this
  rw [this]
  obtain ⟨m, hm⟩ : ∃ m, (hd g ++ r).length / 64 = m + 1 := ⟨(hd g ++ r).length / 64 - 1, by omega⟩
  simp only [hm]
  show (hd g ++ r).take 64 = hd g
  rw [List.take_left' (hd_len g)]
/-- A log on such a disk. -/
structure Lu (w wr : World) (p : Nat) (F : Nat → Prop) (n : Nat) (f : Nat → Bs) (l : List Wt) (q : Nat) (v : Value) (x : Lo) : Prop where
  hd_ : HD w wr p F (up n f l) q (x.h * (n / 2)) (n / 2) x.g v x.ts x.tk x.mr []
  h1 : x.h ≤ 1
  n4 : 4 ≤ n
  n2 : n ≤ 1024
  tk : x.tk ≤ n / 2
  ok : ∀ t ∈ x.ts, 1 ≤ t.length ∧ t.length ≤ 2000
  sh : lay f l (x.h * (n / 2)) = hd x.g
  g1 : 1 ≤ x.g
  g2 : x.g ≤ 1000000
  ln : l.length ≤ x.tk
section
variable {w wr : World} {p : Nat} {F : Nat → Prop} {n : Nat} {f : Nat → Bs} {l : List Wt} {q : Nat} {v : Value} {x : Lo}
theorem Lu.later (h : Lu w wr p F n f l q v x) {w' : World} (hb : Below wr.heap.size wr w') : Lu w w' p F n f l q v x := ⟨h.hd_.later hb, h.h1, h.n4, h.n2, h.tk, h.ok, h.sh, h.g1, h.g2, h.ln⟩
theorem Lu.other (h : Lu w wr p F n f l q v x) {w' : World} {G : Nat → Prop} (hb : Bf G wr w') (hG : ∀ y, FH F q v y → ¬ G y) (hw : ∀ y, G y → w.heap.size ≤ y) : Lu w w' p F n f l q v x :=
  ⟨⟨⟨h.hd_.dl.at_.other hb (fun y hy => hG y (.inl hy)), h.hd_.dl.new, h.hd_.dl.below.trans (hb.below hw h.hd_.dl.below.size)⟩, h.hd_.hf.bf hb (fun y hy => hG y (.inr hy)), h.hd_.ap⟩, h.h1, h.n4, h.n2, h.tk, h.ok, h.sh, h.g1, h.g2, h.ln⟩
theorem Lu.fh (h : Lu w wr p F n f l q v x) {y : Nat} (hy : FH F q v y) : y < wr.heap.size ∧ w.heap.size ≤ y := by
  rcases hy with e | e
  · exact ⟨h.hd_.dl.at_.lt e, h.hd_.dl.new y e⟩
  · exact ⟨h.hd_.hf.lt e, (h.hd_.ap y e).2⟩
theorem Lu.tlen (h : Lu w wr p F n f l q v x) : x.ts.length ≤ 512 := by
  have h1 := tkn_ge_len x.ts
  have h2 : tkn 1 x.ts ≤ n / 2 := h.tk
  have h3 := h.n2
  omega
theorem Lu.fr (h : Lu w wr p F n f l q v x) : x.h * (n / 2) + n / 2 ≤ n := by
  rcases (by have := h.h1; omega : x.h = 0 ∨ x.h = 1) with e | e
  · rw [e, Nat.zero_mul]; omega
  · rw [e, Nat.one_mul]; omega
end
/-- What a call leaves of a log: of its blocks, and of all others. -/
def LuP (w wr : World) (p : Nat) (F : Nat → Prop) (n : Nat) (q : Nat) (v : Value) (x : Lo) (w' : World) : Prop := ∃ F' f' l' v', Lu w w' p F' n f' l' q v' x ∧ Nx2 wr F q v F' v' ∧ Bf (FH F q v) wr w'
theorem appendU (w wr : World) (p : Nat) (F : Nat → Prop) (n : Nat) (f : Nat → Bs) (l : List Wt) (q : Nat) (v : Value) (x : Lo) (X : ByteArray) (hX : may X.data.toList = 0) (hk : Kh w) (h : Lu w wr p F n f l q v x) :
    Calls Tryd.prog 11 #[.pointer (some ⟨q, 0, none⟩), .string X] wr fun e w' =>
      e = .returned (.int .i64 (if n / 2 < x.tk + sn X.data.toList then 151 else 0)) ∧ LuP w wr p F n q v (if n / 2 < x.tk + sn X.data.toList then x else { x with ts := x.ts ++ [X.data.toList] }) w' := by
  have hx : x.tk ≤ n / 2 := h.tk
  have hn2 := h.n2
  have hfr := h.fr
  have hln := h.ln
  refine (lappend_any w wr p F (up n f l) q (x.h * (n / 2)) (n / 2) x.g v x.ts x.tk x.mr X (mks_len _ _ rfl) (by have := h.tlen; omega) h.tk (by omega) (by omega) (by show l.length + 100 ≤ 1000000; omega) hk h.hd_).mono ?_
  rintro e w' ⟨he, F', v', n1, b1, hh⟩
  unfold apR at he hh
  rw [if_neg (by rw [hX]; simp)] at he hh
  by_cases h2 : n / 2 < x.tk + sn X.data.toList
  · rw [if_pos h2] at he hh
    rw [if_pos h2, if_pos h2]
    refine ⟨he, F', f, l, v', ?_, n1, b1⟩
    rcases hh with ⟨c, -⟩ | ⟨-, hh⟩
    · exact absurd c (show ¬ (151 : Int) = 0 by decide)
    · exact ⟨hh, h.h1, h.n4, h.n2, h.tk, h.ok, h.sh, h.g1, h.g2, h.ln⟩
  · rw [if_neg h2] at he hh
    rw [if_neg h2, if_neg h2]
    have ew := wrb_u (rcd_len x.mr X.data.toList) (n := n) (k := x.h * (n / 2) + x.tk) (by omega) f l
    rw [ew] at he hh
    refine ⟨he, F', f, l ++ wts (x.h * (n / 2) + x.tk) (chs (sn X.data.toList) (rcd x.mr X.data.toList)), v', ?_, n1, b1⟩
    have et : (⟨x.h, x.g, x.ts ++ [X.data.toList]⟩ : Lo).tk = x.tk + sn X.data.toList := tkn_app x.ts 1 _
    have em : (⟨x.h, x.g, x.ts ++ [X.data.toList]⟩ : Lo).mr = rmk x.mr X.data.toList := mks_app x.ts (hm x.g) _
    rcases hh with ⟨-, hh⟩ | ⟨c, -⟩
    · refine ⟨?_, h.h1, h.n4, h.n2, ?_, ?_, ?_, h.g1, h.g2, ?_⟩
      · show HD _ _ _ _ _ _ _ _ _ _ _ (⟨x.h, x.g, x.ts ++ [X.data.toList]⟩ : Lo).tk (⟨x.h, x.g, x.ts ++ [X.data.toList]⟩ : Lo).mr _
        rw [et, em]
        exact hh
      · show (⟨x.h, x.g, x.ts ++ [X.data.toList]⟩ : Lo).tk ≤ _
        rw [et]
        omega
      · intro t ht
        rcases List.mem_append.1 ht with ht | ht
        · exact h.ok t ht
        · rw [List.mem_singleton] at ht
          subst ht
          exact may_ok hX
      · show lay f (l ++ _) (x.h * (n / 2)) = hd x.g
        have h1 := tkn_ge x.ts 1
        rw [lay_lay, wts_at, dif_neg (by show ¬ (x.h * (n / 2) + tkn 1 x.ts ≤ _ ∧ _); omega)]
        exact h.sh
      · show (l ++ _).length ≤ (⟨x.h, x.g, x.ts ++ [X.data.toList]⟩ : Lo).tk
        rw [et, List.length_append, wts_len, chs_len]
        omega
    · exact absurd rfl c
theorem roomU (w wr : World) (p : Nat) (F : Nat → Prop) (n : Nat) (f : Nat → Bs) (l : List Wt) (q : Nat) (v : Value) (x : Lo) (h : Lu w wr p F n f l q v x) :
    Calls Tryd.prog 10 #[.pointer (some ⟨q, 0, none⟩)] wr fun e w' => e = .returned (.int .i64 ((n / 2 - x.tk : Nat) : Int)) ∧ Below wr.heap.size wr w' :=
  lroom_any q p _ (n / 2) x.g v x.ts x.tk x.mr [] wr h.tk (by have := h.n2; omega) h.hd_.hf
theorem recordsU (w wr : World) (p : Nat) (F : Nat → Prop) (n : Nat) (f : Nat → Bs) (l : List Wt) (q : Nat) (v : Value) (x : Lo) (h : Lu w wr p F n f l q v x) :
    Calls Tryd.prog 12 #[.pointer (some ⟨q, 0, none⟩)] wr fun e w' => ∃ a c, e = .returned (.slice a x.ts.length c) ∧ TxAt w' a x.ts ∧ Below wr.heap.size wr w' :=
  (lrecords_any q p _ (n / 2) x.g v x.ts x.tk x.mr [] wr (by have := h.tlen; omega) (fun t ht => (h.ok t ht).2) h.hd_.hf).mono fun _ _ ⟨u, he, hr, hb⟩ => by
    obtain ⟨a, c, rfl, tx, -⟩ := owns_tx rfl hr
    exact ⟨a, c, he, tx, hb⟩
theorem generationU (w wr : World) (p : Nat) (F : Nat → Prop) (n : Nat) (f : Nat → Bs) (l : List Wt) (q : Nat) (v : Value) (x : Lo) (h : Lu w wr p F n f l q v x) :
    Calls Tryd.prog 14 #[.pointer (some ⟨q, 0, none⟩)] wr fun e w' => e = .returned (.int .i64 (x.g : Int)) ∧ w' = wr := lgeneration_any q p _ (n / 2) x.g v x.ts x.tk x.mr [] wr h.hd_.hf
/-- The other half is begun. -/
theorem compactU (w wr : World) (p : Nat) (F : Nat → Prop) (n : Nat) (f : Nat → Bs) (l : List Wt) (q : Nat) (v : Value) (x : Lo) (a : Option Addr) (k c : Nat) (us : List Bs) (hus : us.length = k) (hok : ∀ t ∈ us, 1 ≤ t.length ∧ t.length ≤ 2000) (hsn : 1 + sns us ≤ n / 2) (hg : x.g < 1000000) (hk : Kh w) (h : Lu w wr p F n f l q v x) (tx : TxAt wr a us) (ap : Ap a us F) :
    Calls Tryd.prog 13 #[.pointer (some ⟨q, 0, none⟩), .slice a k c] wr fun e w' => e = .returned (.int .i64 0) ∧ ∃ F' v', Lu w w' p F' n (bgf ((1 - x.h) * (n / 2)) (n / 2) (hd (x.g + 1) ++ rcs (hm (x.g + 1)) us) (lay f l)) [] q v' ⟨1 - x.h, x.g + 1, us⟩ ∧ Nx2 wr F q v F' v' ∧ Bf (FH F q v) wr w' := by
  have hn2 := h.n2
  have hn4 := h.n4
  have hln := h.ln
  have htk : x.tk ≤ n / 2 := h.tk
  have e2 : n / 2 - x.h * (n / 2) = (1 - x.h) * (n / 2) := by
    rcases (by have := h.h1; omega : x.h = 0 ∨ x.h = 1) with e | e
    · rw [e, Nat.zero_mul, Nat.sub_zero, Nat.sub_zero, Nat.one_mul]
    · rw [e, Nat.one_mul, Nat.sub_self, Nat.sub_self, Nat.zero_mul]
  have hm0 : mays us = 0 := by
    have : ∀ us : List Bs, (∀ t ∈ us, 1 ≤ t.length ∧ t.length ≤ 2000) → mays us = 0 := fun us => by
      induction us with
      | nil => intro _; rfl
      | cons t us ih =>
        intro hh
        have ht := hh t (List.mem_cons_self ..)
        rw [may_next (show may t = 0 by unfold may; rw [if_neg (by omega), if_neg (by omega)])]
        exact ih (fun y hy => hh y (List.mem_cons_of_mem _ hy))
    exact this us hok
  have hs1 := sns_len us
  refine (lcompact_any w wr p F (up n f l) q (x.h * (n / 2)) (n / 2) x.g v x.ts x.tk x.mr a k c us hus (by omega) (by show 2 * (n / 2) ≤ n; omega) (by omega) (by have := h.g2; omega) (by rcases (by have := h.h1; omega : x.h = 0 ∨ x.h = 1) with e | e; exact .inl (by rw [e, Nat.zero_mul]); exact .inr (by rw [e, Nat.one_mul])) (by show l.length + 2000 ≤ 1000000; omega) hk h.hd_ tx ap).mono ?_
  rintro e w' ⟨he, F', v', n1, b1, hh⟩
  have hfr : (1 - x.h) * (n / 2) + n / 2 ≤ n := by
    rcases (by have := h.h1; omega : x.h = 0 ∨ x.h = 1) with e | e
    · rw [e, Nat.sub_zero, Nat.one_mul]; omega
    · rw [e, Nat.sub_self, Nat.zero_mul]; omega
  have er : cmR (up n f l) (n / 2 - x.h * (n / 2)) (n / 2) x.g us = (0, up n (bgf ((1 - x.h) * (n / 2)) (n / 2) (hd (x.g + 1) ++ rcs (hm (x.g + 1)) us) (lay f l)) []) := by
    rw [cmR, if_neg (by rw [hm0]; simp), if_neg (by omega), if_neg (by omega), e2]
    exact bgn_u f l hfr hsn
  rw [er] at he hh
  refine ⟨he, F', v', ?_, n1, b1⟩
  rcases hh with ⟨-, hh⟩ | ⟨c, -⟩
  · rw [e2] at hh
    refine ⟨hh, by show 1 - x.h ≤ 1; omega, h.n4, h.n2, ?_, hok, bgf_head _ _ _ _ _, by show 1 ≤ x.g + 1; omega, by show x.g + 1 ≤ 1000000; omega, Nat.zero_le _⟩
    show tkn 1 us ≤ n / 2
    rw [tkn_sns]
    exact hsn
  · exact absurd rfl c
/-- A new log. -/
theorem openU_new (w wr : World) (p : Nat) (F : Nat → Prop) (n : Nat) (hn4 : 4 ≤ n) (hn2 : n ≤ 1024) (hk : Kh w) (h : Dl w wr p F (up n zs [])) :
    Calls Tryd.prog 9 #[.pointer (some ⟨p, 0, none⟩)] wr fun e w' => ∃ q v F', e = .returned (.tuple #[.pointer (some ⟨q, 0, none⟩), .int .i64 0]) ∧ Lu w w' p F' n (bgf 0 (n / 2) (hd 1 ++ rcs (hm 1) []) zs) [] q v ⟨0, 1, []⟩ ∧ Bf F wr w' ∧ Nx wr F F' ∧ ∀ z, HFt q v z → wr.heap.size ≤ z := by
  have eo := opn_blank (n := n) zs (fun _ => rfl) (by omega)
  refine (lopen_any w wr p F (up n zs []) (by show 2 ≤ n / 2; omega) (by show 0 + 2000 ≤ 1000000; decide) hk h).mono ?_
  rintro e w' ⟨F', d1, d2, d3, hres⟩
  rw [eo] at d1 hres
  rcases hres with ⟨-, q, v, he, hh, nn⟩ | ⟨c, -⟩
  · refine ⟨q, v, F', he, ⟨hh, by decide, hn4, hn2, by show 1 ≤ n / 2; omega, nofun, ?_, by decide, by decide, Nat.zero_le _⟩, d3, d2, nn⟩
    show bgf 0 (n / 2) _ zs (0 * (n / 2)) = hd 1
    rw [Nat.zero_mul]
    exact bgf_head _ _ _ _ _
  · exact absurd rfl c
end Go.Proofs.YtdcimnmebgkmjaaDoor
