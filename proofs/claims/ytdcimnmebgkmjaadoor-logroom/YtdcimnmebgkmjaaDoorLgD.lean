/- A half is begun: its records, its head. -/
import Derived.Test.YtdcimnmebgkmjaaDoorLgO
namespace Go.Proofs.YtdcimnmebgkmjaaDoor
open Go.RowKit Go.Proofs.Fd Go.Proofs.Dk Go.Proofs.Lg
set_option maxRecDepth 20000

/-- Texts that lie in a row. -/
def TxAt (w : World) (a : Option Addr) (l : List Bs) : Prop := ∀ i (hi : i < l.length), ∃ b o, a = some ⟨b, o, none⟩ ∧ w.cell? ⟨b, o + i, none⟩ = some (sv l[i])
theorem TxAt.nil (w : World) (a : Option Addr) : TxAt w a [] := fun _ hi => absurd hi (Nat.not_lt_zero _)
theorem TxAt.later {w w' : World} {a : Option Addr} {l : List Bs} (h : TxAt w a l) (hb : Below w.heap.size w w') : TxAt w' a l := fun i hi => by
  obtain ⟨b, o, e, hc⟩ := h i hi
  exact ⟨b, o, e, cell_later hb hc⟩
/-- Its row is none of these blocks. -/
def Ap (a : Option Addr) (l : List Bs) (G : Nat → Prop) : Prop := ∀ x, a = some x → 0 < l.length → ¬ G x.block
theorem TxAt.lt {w : World} {a : Option Addr} {l : List Bs} (h : TxAt w a l) : ∀ x, a = some x → 0 < l.length → x.block < w.heap.size := fun x e h0 => by
  obtain ⟨b, o, e', hc⟩ := h 0 h0
  rw [e'] at e
  injection e with e
  subst e
  exact World.block_lt_of_cell? _ _ hc
theorem TxAt.bf {w w' : World} {a : Option Addr} {l : List Bs} (h : TxAt w a l) {G : Nat → Prop} (hb : Bf G w w') (ha : Ap a l G) : TxAt w' a l := fun i hi => by
  obtain ⟨b, o, e, hc⟩ := h i hi
  exact ⟨b, o, e, hb.cell hc (show ¬ G b from ha ⟨b, o, none⟩ e (by omega))⟩
theorem Ap.nx {w : World} {a : Option Addr} {l : List Bs} {G G' : Nat → Prop} (ha : Ap a l G) (h : TxAt w a l) (hx : Nx w G G') : Ap a l G' := fun x e h0 => hx.apart (ha x e h0) (h.lt x e h0)
theorem wrs_len : ∀ (bs : List Bs) (s : St) (k : Nat), (wrs s k bs).2.l.length ≤ s.l.length + bs.length
  | [], _, _ => Nat.le_refl _
  | b :: bs, s, k => by
    rw [wrs]
    have h1 := wrS_len s (k : Int) b
    by_cases h : wrE s (k : Int) b = 0
    · rw [thn_ok h]
      have := wrs_len bs (wrS s (k : Int) b) (k + 1)
      rw [List.length_cons]
      exact Nat.le_trans this (by omega)
    · rw [thn_no h, List.length_cons]
      exact Nat.le_trans h1 (by omega)
theorem wrb_len (s : St) (k : Nat) (b : Bs) : (wrb s k b).2.l.length ≤ s.l.length + b.length / 64 := by
  have := wrs_len (chs (b.length / 64) b) s k
  rw [chs_len] at this
  exact this
/-- What stands while a half is filled. -/
structure Fl (w va : World) (p : Nat) (F : Nat → Prop) (s : St) (q fr mn g : Nat) (v : Value) (a : Option Addr) (n c : Nat) (l : List Bs) (r : Int × St) (k : Nat) (wr : World) (F' : Nat → Prop) (s' : St) (v' : Value) : Prop where
  hd : HD w wr p F' s' q fr mn g v' (l.take k) (tkn 1 (l.take k)) (mks (hm g) (l.take k)) [.slice a n c]
  nx : Nx2 va F q v F' v'
  bf : Bf (FH F q v) va wr
  ln : s'.l.length + 1 ≤ s.l.length + tkn 1 (l.take k)
  eq : r = pts s' fr (tkn 1 (l.take k)) (mks (hm g) (l.take k)) (l.drop k)
  tx : TxAt wr a l
/-- What fill leaves. -/
def FlP (w va : World) (p : Nat) (F : Nat → Prop) (q fr mn g : Nat) (v : Value) (more : List Value) (l : List Bs) (y : Int × St) (w' : World) : Prop :=
  ∃ F' v' ts' tk' m', Nx2 va F q v F' v' ∧ Bf (FH F q v) va w' ∧ HD w w' p F' y.2 q fr mn g v' ts' tk' m' more ∧ (y.1 = 0 → ts' = l ∧ tk' = tkn 1 l ∧ m' = mks (hm g) l)
theorem tkn_take (l : List Bs) (k : Nat) (hk : k < l.length) : tkn 1 (l.take (k + 1)) = tkn 1 (l.take k) + sn l[k] := by
  rw [List.take_succ_eq_append_getElem hk, tkn_app]
theorem mks_take (a : Bs) (l : List Bs) (k : Nat) (hk : k < l.length) : mks a (l.take (k + 1)) = rmk (mks a (l.take k)) l[k] := by
  rw [List.take_succ_eq_append_getElem hk, mks_app]
theorem tkn_mono (l : List Bs) (k : Nat) : tkn 1 (l.take k) ≤ tkn 1 l := by
  rw [tkn_sns, tkn_sns]
  have : ∀ (l : List Bs) (k : Nat), sns (l.take k) ≤ sns l := fun l => by
    induction l with
    | nil => intro k; rw [List.take_nil]; exact Nat.le_refl _
    | cons t l ih =>
      intro k
      cases k with
      | zero => exact Nat.zero_le _
      | succ k => rw [List.take_succ_cons, sns, sns]; have := ih k; omega
  have := this l k
  omega
set_option maxHeartbeats 4000000 in
theorem lfill_any (w va : World) (p : Nat) (F : Nat → Prop) (s : St) (q fr mn g : Nat) (v : Value) (tk : Nat) (m : Bs) (a : Option Addr) (n c : Nat) (l : List Bs) (hn : l.length = n) (ht : ∀ t ∈ l, t.length ≤ 2000) (hs : tkn 1 l ≤ mn) (hz : fr + mn ≤ 3000) (hl : s.l.length + mn + 200 ≤ 1000000) (hk : Hid (Kh w)) (h : Hid (HD w va p F s q fr mn g v [] tk m [.slice a n c])) (hx : Hid (TxAt va a l)) (ha : Hid (Ap a l (FH F q v))) :
    Calls Tryd.prog 48 #[.pointer (some ⟨q, 0, none⟩)] va fun e w' => e = .returned (.int .i64 (pts s fr 1 (hm g) l).1) ∧ FlP w va p F q fr mn g v [.slice a n c] l (pts s fr 1 (hm g) l) w' := by
  have GO : Hid _ := lgoOn_any q p fr mn g v [] tk m [.slice a n c] va (h.out.kh hk.out) h.out.hf
  obtain ⟨r, hr⟩ : ∃ r, pts s fr 1 (hm g) l = r := ⟨_, rfl⟩
  rw [hr]
  have HLL : Hid (∀ t ∈ l, t.length ≤ 2000) := ht
  have HN : Hid (l.length = n) := hn
  have hnn : n ≤ 5000 := by
    have := tkn_ge_len l
    omega
  have I0 : Hid (∀ W, Hf W q p fr mn g v [] 1 (hm g) [.slice a n c] → Bf (fun x => x = q) va W → Fl w va p F s q fr mn g v a n c l r 0 W F s v) := fun W k hb => by
    have hw : ∀ x, x = q → FH F q v x := fun x e => .inr (.inl e)
    exact ⟨h.out.half k (hb.wide fun x e => .inl e) (Nx.refl _ _), Nx2.refl _ _ _ _, hb.wide hw, Nat.le_refl _, hr.symm, hx.out.bf (hb.wide hw) ha.out⟩
  have HAP : Hid (∀ (W : World) (G' : Nat → Prop), Nx va (FH F q v) G' → Ap a l G') := fun W G' k => ha.out.nx hx.out k
  have AD : Hid (∀ W F' s' v' (k : Nat) (hk' : k < l.length), s'.l.length + 100 ≤ 1000000 → HD w W p F' s' q fr mn g v' (l.take k) (tkn 1 (l.take k)) (mks (hm g) (l.take k)) [.slice a n c] → Calls Tryd.prog 35 #[.pointer (some ⟨q, 0, none⟩), sv l[k]] W fun e w' => e = .returned (.int .i64 (wrb s' (fr + tkn 1 (l.take k)) (rcd (mks (hm g) (l.take k)) l[k])).1) ∧ AdP w W p F' q fr mn g v' (l.take k) (tkn 1 (l.take k)) (mks (hm g) (l.take k)) [.slice a n c] l[k] (wrb s' (fr + tkn 1 (l.take k)) (rcd (mks (hm g) (l.take k)) l[k])) w') := fun W F' s' v' k hk' hb hd =>
    ladd_any w W p F' s' q fr mn g v' (l.take k) _ _ _ l[k] (mks_len _ _ rfl) (ht _ (List.getElem_mem hk')) (by rw [List.length_take]; omega) (by have := tkn_mono l k; omega) hb hk hd
  clear hr h hx ha hk ht hn
  go_enter Tryd.func48, Tryd.ntmps48
  go_wp2_with fail
  refine Calls.mono GO.out ?_
  rintro e w1 ⟨rfl, h1, h2⟩
  have I1 : Hid _ := I0.out w1 h1 h2
  clear h1 h2 GO I0
  have k7 := I1.out.hd.hf.bk.c 7 _ rfl
  go_wp2
  clear k7
  go_loopw [15] (fun i wr => ∃ (k : Nat) (F' : Nat → Prop) (s' : St) (v' : Value), k ≤ n ∧ i = .int .i64 (k : Int) ∧ Hid (Fl w va p F s q fr mn g v a n c l r k wr F' s' v')) (fun i _ => n - (intOf i).toNat)
  case atStart => exact ⟨0, F, s, v, Nat.zero_le _, rfl, I1.out⟩
  case round =>
    obtain ⟨k, F', s', v', hkn, rfl, I⟩ := hrel
    clear I1
    by_cases hlt : k < n
    · have hkl : k < l.length := by rw [HN.out]; exact hlt
      have g1 : (k : Int) < (n : Int) := by omega
      obtain ⟨b, o, rfl, c0⟩ := I.out.tx k hkl
      have hr2 := I.out.eq
      rw [List.drop_eq_getElem_cons hkl, pts] at hr2
      have hln := I.out.ln
      have hmo := tkn_mono l k
      have A1 : Hid _ := AD.out wr F' s' v' k hkl (by omega) I.out.hd
      have HW := wrb_len s' (fr + tkn 1 (l.take k)) (rcd (mks (hm g) (l.take k)) l[k])
      rw [rcd_len, show 64 * sn l[k] / 64 = sn l[k] by omega] at HW
      have EK := tkn_take l k hkl
      have EM := mks_take (hm g) l k hkl
      have ET : l.take (k + 1) = l.take k ++ [l[k]] := List.take_succ_eq_append_getElem hkl
      obtain ⟨y, hy⟩ : ∃ y, wrb s' (fr + tkn 1 (l.take k)) (rcd (mks (hm g) (l.take k)) l[k]) = y := ⟨_, rfl⟩
      rw [hy] at hr2 A1 HW
      obtain ⟨t, ht⟩ : ∃ t, l[k] = t := ⟨_, rfl⟩
      rw [ht] at A1 c0 EK EM ET hr2 HW
      have HR : Hid (r = thn y fun s'' => pts s'' fr (tkn 1 (l.take k) + sn t) (rmk (mks (hm g) (l.take k)) t) (l.drop (k + 1))) := hr2
      have HEQ : Hid (tkn 1 (l.take (k + 1)) = tkn 1 (l.take k) + sn t ∧ mks (hm g) (l.take (k + 1)) = rmk (mks (hm g) (l.take k)) t ∧ l.take (k + 1) = l.take k ++ [t]) := ⟨EK, EM, ET⟩
      have HLN : Hid (y.2.l.length + 1 ≤ s.l.length + (tkn 1 (l.take k) + sn t)) := (show y.2.l.length + 1 ≤ s.l.length + (tkn 1 (l.take k) + sn t) by omega)
      have HAW : Hid (Ap (some ⟨b, o, none⟩) l (FH F' q v')) := HAP.out wr _ I.out.nx.fh
      clear hy ht hr2 EK EM ET hln hmo AD HAP
      obtain ⟨x, hx⟩ : ∃ x, y.1 = x := ⟨_, rfl⟩
      rw [hx] at A1
      have HX : Hid (y.1 = x) := hx
      clear hx
      unfold sv at A1 c0
      go_wp2_with fail
      refine Calls.mono A1.out ?_
      rintro e w2 ⟨rfl, F2, v2, n2, b2, hd2⟩
      by_cases h0 : x = 0
      · subst h0
        have J : Hid (Fl w va p F s q fr mn g v (some ⟨b, o, none⟩) n c l r (k + 1) w2 F2 y.2 v2) := by
          rcases hd2 with ⟨-, hd2⟩ | ⟨hne, -⟩
          · refine ⟨?_, I.out.nx.trans n2 I.out.bf.size, I.out.bf.trans I.out.nx.fh b2, ?_, ?_, I.out.tx.bf b2 HAW.out⟩
            · rw [HEQ.out.1, HEQ.out.2.1, HEQ.out.2.2]
              exact hd2
            · rw [HEQ.out.1]
              exact HLN.out
            · rw [HEQ.out.1, HEQ.out.2.1]
              exact HR.out.trans (thn_ok HX.out)
          · exact absurd HX.out hne
        clear hd2 n2 b2 I A1 c0
        go_wp2
        go_roundw
        case rel => exact ⟨k + 1, F2, y.2, v2, by omega, rfl, J.out⟩
        case measure => simp [intOf]; omega
      · have J : Hid (r = y ∧ FlP w va p F q fr mn g v [.slice (some ⟨b, o, none⟩) n c] l y w2) := by
          rcases hd2 with ⟨he, -⟩ | ⟨-, hd2⟩
          · exact absurd (HX.out.symm.trans he) h0
          · exact ⟨HR.out.trans (thn_no (by rw [HX.out]; exact h0)), F2, v2, _, _, _, I.out.nx.trans n2 I.out.bf.size, I.out.bf.trans I.out.nx.fh b2, hd2, fun e => absurd (HX.out.symm.trans e) h0⟩
        clear hd2 n2 b2 I A1 c0
        go_wp2
        go_ret
        exact ⟨by rw [J.out.1, HX.out]; rfl, by rw [J.out.1]; exact J.out.2⟩
    · obtain rfl : k = n := by omega
      have J : Hid (r = (0, s') ∧ FlP w va p F q fr mn g v [.slice a k c] l (0, s') wr) := by
        have h1 := I.out.eq
        have e1 : l.take k = l := List.take_of_length_le (by rw [HN.out]; exact Nat.le_refl _)
        have e2 : l.drop k = [] := List.drop_of_length_le (by rw [HN.out]; exact Nat.le_refl _)
        rw [e2, pts] at h1
        have h2 := I.out.hd
        rw [e1] at h2
        exact ⟨h1, F', v', _, _, _, I.out.nx, I.out.bf, h2, fun _ => ⟨rfl, rfl, rfl⟩⟩
      clear I
      go_wp2
      go_ret
      exact ⟨by rw [J.out.1]; rfl, by rw [J.out.1]; exact J.out.2⟩
end Go.Proofs.YtdcimnmebgkmjaaDoor
