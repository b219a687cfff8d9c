/- A half is begun. -/
import Derived.Test.YtdcimnmebgkmjaaDoorLgD
namespace Go.Proofs.YtdcimnmebgkmjaaDoor
open Go.RowKit Go.Proofs.Fd Go.Proofs.Dk Go.Proofs.Lg
set_option maxRecDepth 20000

theorem keepE {wa wb : World} {q : Nat} {x0 x1 x2 x3 : Value} (hb : Below wa.heap.size wa wb) (h : wa.cell? ⟨q, 0, none⟩ = some x0 ∧ wa.cell? ⟨q, 1, none⟩ = some x1 ∧ wa.cell? ⟨q, 2, none⟩ = some x2 ∧ wa.cell? ⟨q, 3, none⟩ = some x3) :
    wb.cell? ⟨q, 0, none⟩ = some x0 ∧ wb.cell? ⟨q, 1, none⟩ = some x1 ∧ wb.cell? ⟨q, 2, none⟩ = some x2 ∧ wb.cell? ⟨q, 3, none⟩ = some x3 := ⟨cell_later hb h.1, cell_later hb h.2.1, cell_later hb h.2.2.1, cell_later hb h.2.2.2⟩
theorem keepEd {w wa wb : World} {p : Nat} {F : Nat → Prop} {s : St} {q : Nat} {x0 x1 x2 x3 : Value} (hq : ¬ F q) (hd : Ds w wa p F s wb) (h : wa.cell? ⟨q, 0, none⟩ = some x0 ∧ wa.cell? ⟨q, 1, none⟩ = some x1 ∧ wa.cell? ⟨q, 2, none⟩ = some x2 ∧ wa.cell? ⟨q, 3, none⟩ = some x3) :
    wb.cell? ⟨q, 0, none⟩ = some x0 ∧ wb.cell? ⟨q, 1, none⟩ = some x1 ∧ wb.cell? ⟨q, 2, none⟩ = some x2 ∧ wb.cell? ⟨q, 3, none⟩ = some x3 := by
  obtain ⟨F', -, -, hb⟩ := hd
  exact ⟨hb.cell h.1 hq, hb.cell h.2.1 hq, hb.cell h.2.2.1 hq, hb.cell h.2.2.2 hq⟩
set_option maxHeartbeats 2000000 in
theorem lcrown_any (w va : World) (p : Nat) (F : Nat → Prop) (s : St) (q fr mn g : Nat) (v : Value) (ts : List Bs) (tk : Nat) (m : Bs) (more : List Value) (hz : fr ≤ 4000) (hl : s.l.length + 1 ≤ 1000000) (hk : Hid (Kh w)) (h : Hid (HD w va p F s q fr mn g v ts tk m more)) :
    Calls Tryd.prog 49 #[.pointer (some ⟨q, 0, none⟩)] va fun e w' => e = .returned (.int .i64 (wrb s fr (hd g)).1) ∧ Ds w va p F (wrb s fr (hd g)).2 w' := by
  have HH : Hid (∀ W, Kh W → Calls Tryd.prog 68 #[.int .i64 (g : Int)] W fun e w' => e = .returned (.string (st (hd g))) ∧ Below W.heap.size W w') := fun W k => lhead_any g W k
  have WR : Hid (∀ W, Dl w W p F s → Calls Tryd.prog 52 #[.agg #[.pointer (some ⟨p, 0, none⟩), .int .i64 (fr : Int), .int .i64 (mn : Int)], .int .i64 0, .string (st (hd g))] W fun e w' => e = .returned (.int .i64 (wrb s fr (hd g)).1) ∧ Ds w W p F (wrb s fr (hd g)).2 w') := fun W k => lwrite_any w W p F s fr 0 mn (hd g) 1 (hd_len g) (by decide) (by omega) (by omega) k
  have c0 := h.out.hf.bk.c 0 _ rfl
  have c1 := h.out.hf.bk.c 1 _ rfl
  have c2 := h.out.hf.bk.c 2 _ rfl
  have c3 := h.out.hf.bk.c 3 _ rfl
  have NQ : Hid (¬ F q) := (h.out.ap q (.inl rfl)).1
  have KK : Hid (∀ W, Below va.drew.heap.size va.drew W → Dl w W p F s) := fun W hb => (h.out.dl.later (Below.refl _ _).drew).later hb
  have KD : Hid (Kh va.drew) := hk.out.later (h.out.dl.below.drew)
  have HF : Hid (∀ W W', Below va.drew.heap.size va.drew W → Ds w W p F (wrb s fr (hd g)).2 W' → Ds w va p F (wrb s fr (hd g)).2 W') := fun W W' hb ⟨F', k1, k2, k3⟩ => by
    have b0 : Below va.heap.size va W := chain (Below.refl _ _).drew hb
    exact ⟨F', k1, (Nx.refl va F).trans k2 b0.size, (Bf.of b0).trans (Nx.refl _ _) k3⟩
  obtain ⟨y, hy⟩ : ∃ y, wrb s fr (hd g) = y := ⟨_, rfl⟩
  obtain ⟨x, hx⟩ : ∃ x, y.1 = x := ⟨_, rfl⟩
  rw [hy] at WR HF ⊢
  rw [hx] at WR ⊢
  obtain ⟨X, hX⟩ : ∃ X, st (hd g) = X := ⟨_, rfl⟩
  rw [hX] at HH WR
  clear hy hx hX h hk hl
  go_enter Tryd.func49, Tryd.ntmps49
  go_wp2_with fail
  go_region_held3 (fun w' => w'.cell? ⟨q, 0, none⟩ = some (.pointer (some ⟨p, 0, none⟩)) ∧ w'.cell? ⟨q, 1, none⟩ = some (.int .i64 (fr : Int)) ∧ w'.cell? ⟨q, 2, none⟩ = some (.int .i64 (mn : Int)) ∧ w'.cell? ⟨q, 3, none⟩ = some (.int .i64 (g : Int))) (first | exact ⟨c0, c1, c2, c3⟩ | assumption | exact keepE (by assumption) (by assumption) | exact keepEd NQ.out (by assumption) (by assumption)) (first | (go_at_call 68; refine Calls.mono (HH.out _ KD.out) ?_; rintro e w3 ⟨rfl, hb3⟩) | (go_at_call 52; refine Calls.mono (WR.out _ (KK.out _ (by assumption))) ?_; rintro e w4 ⟨rfl, hd4⟩))
  have FF : Hid (Ds w va p F y.2 w4) := HF.out w3 w4 hb3 hd4
  clear hd4 hb3 KK KD HF WR HH
  go_wp2
  go_ret
  exact ⟨rfl, FF.out⟩
theorem cls_len : ∀ (m : Nat) (s : St) (k : Nat) (d : Bool), (cls s k m d).2.l.length ≤ s.l.length + m
  | 0, s, k, d => by
    rw [cls]
    split
    · show (syS s).l.length ≤ _
      unfold syS
      split
      · omega
      · split
        · show s.l.length ≤ _
          omega
        · exact Nat.zero_le _
    · exact Nat.le_refl _
  | m + 1, s, k, d => by
    rw [cls]
    split
    · have := cls_len m s (k + 1) d
      omega
    · have h1 := wrS_len s (k : Int) (zr 64)
      by_cases h : wrE s (k : Int) (zr 64) = 0
      · rw [thn_ok h]
        have := cls_len m (wrS s (k : Int) (zr 64)) (k + 1) true
        exact Nat.le_trans this (by omega)
      · rw [thn_no h]
        exact Nat.le_trans h1 (by omega)
theorem cln_len (s : St) (k m : Nat) : (cln s k m).2.l.length ≤ s.l.length + m := by
  rw [cln]
  split
  · exact Nat.le_add_right _ _
  · exact cls_len m s k false
theorem pts_len : ∀ (l : List Bs) (s : St) (k tk : Nat) (a : Bs), (pts s k tk a l).2.l.length ≤ s.l.length + sns l
  | [], _, _, _, _ => Nat.le_refl _
  | t :: l, s, k, tk, a => by
    rw [pts, sns]
    have h1 := wrb_len s (k + tk) (rcd a t)
    rw [rcd_len, show 64 * sn t / 64 = sn t by omega] at h1
    by_cases h : (wrb s (k + tk) (rcd a t)).1 = 0
    · rw [thn_ok h]
      have := pts_len l (wrb s (k + tk) (rcd a t)).2 k (tk + sn t) (rmk a t)
      omega
    · rw [thn_no h]
      omega
theorem syS_len (s : St) : (syS s).l.length ≤ s.l.length := by
  unfold syS
  split
  · omega
  · split
    · exact Nat.le_refl _
    · exact Nat.zero_le _
end Go.Proofs.YtdcimnmebgkmjaaDoor
