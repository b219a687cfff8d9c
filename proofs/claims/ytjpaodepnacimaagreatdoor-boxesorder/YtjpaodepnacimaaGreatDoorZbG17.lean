/- Parts: LgI, LgO, LgD, LgE. -/
import Derived.Test.YtjpaodepnacimaaGreatDoorZbG16
namespace Go.Proofs.YtjpaodepnacimaaGreatDoor
open Go.RowKit Go.Proofs.Fd Go.Proofs.Dk Go.Proofs.Lg
set_option maxRecDepth 20000
def gO (s : St) (mn : Nat) : Option Nat → Nat
  | none => 0
  | some fr => gen (hb s fr mn)
def cO (s : St) (p mn : Nat) (v : Value) : Option Nat → List Value
  | none => hz0
  | some fr => hc p fr mn (gen (hb s fr mn)) v (fK s fr mn) (fM s fr mn) []
def tO (s : St) (mn : Nat) : Option Nat → List Bs
  | none => []
  | some fr => fT s fr mn
def us (s : St) (mn : Nat) : Nat → Option Nat
  | 0 => none
  | k + 1 => if gO s mn (us s mn k) < gen (hb s (k * mn) mn) then some (k * mn) else us s mn k
theorem cO_len (s : St) (p mn : Nat) (v : Value) (o : Option Nat) : (cO s p mn v o).length = 7 := by cases o <;> rfl
theorem cO_g (s : St) (p mn : Nat) (v : Value) (o : Option Nat) : (cO s p mn v o)[3]? = some (.int .i64 (gO s mn o : Int)) := by cases o <;> rfl
structure Us (va : World) (p : Nat) (s : St) (mn P c b : Nat) (o : Option Nat) (v : Value) (wr : World) : Prop where
  bc : Blk wr c hz0
  bb : Blk wr b (cO s p mn v o)
  pl : Blk wr P [.pointer (some ⟨p, 0, none⟩), .int .i64 0, .int .i64 (mn : Int), .pointer (some ⟨p, 0, none⟩), .int .i64 (mn : Int), .int .i64 (mn : Int)]
  row : OwnsS wr v (tO s mn o)
  bl : Below va.heap.size va wr
  nc : va.heap.size ≤ c
  nb : va.heap.size ≤ b
  cb : c ≠ b
  pv : P < va.heap.size
  vc : v.ownBlock ≠ some c
  vb : v.ownBlock ≠ some b
  nv : ∀ x, v.ownBlock = some x → va.heap.size ≤ x
section
variable {va : World} {p : Nat} {s : St} {mn P c b : Nat} {o : Option Nat} {v : Value} {wr : World}
theorem Us.later (h : Us va p s mn P c b o v wr) {w' : World} (hb : Below wr.heap.size wr w') : Us va p s mn P c b o v w' :=
  ⟨h.bc.later hb, h.bb.later hb, h.pl.later hb, ownsRow_same h.row (fun x e => hb.block x (h.row.lt x e).2), chain h.bl hb, h.nc, h.nb, h.cb, h.pv, h.vc, h.vb, h.nv⟩
theorem Us.better (h : Us va p s mn P c b o v wr) {o' : Option Nat} {v' : Value} (r : OwnsS wr v' (tO s mn o')) (hc' : v'.ownBlock ≠ some c) (hb' : v'.ownBlock ≠ some b) (hn : ∀ x, v'.ownBlock = some x → va.heap.size ≤ x) : Us va p s mn P c b o' v' (wr.setCells b 0 (cO s p mn v' o')) := by
  have hx : ∀ x, x ≠ b → (wr.setCells b 0 (cO s p mn v' o')).heap[x]? = wr.heap[x]? := fun x e => setCells_other wr b 0 _ x e
  have := h.pv
  have := h.nb
  exact ⟨h.bc.same (hx c h.cb), h.bb.put _ (by rw [cO_len, cO_len]), h.pl.same (hx P (by omega)), ownsRow_same r (fun x e => hx x (fun d => hb' (by rw [e, d]))), below_sets h.nb _ 0 h.bl, h.nc, h.nb, h.cb, h.pv, hc', hb', hn⟩
theorem Us.ret (h : Us va p s mn P c b o v wr) : Blk (wr.setCells c 0 (cO s p mn v o)) c (cO s p mn v o) ∧ Below va.heap.size va (wr.setCells c 0 (cO s p mn v o)) ∧ OwnsS (wr.setCells c 0 (cO s p mn v o)) v (tO s mn o) :=
  ⟨h.bc.put _ (by rw [cO_len]; rfl), below_sets h.nc _ 0 h.bl, ownsRow_same h.row (fun x e => setCells_other wr c 0 _ x (fun d => h.vc (by rw [e, d])))⟩
end
theorem Blk.ex {w : World} {b : Nat} {cs : List Value} (h : Blk w b cs) (j : Nat) (hj : j < cs.length) : ∃ x, w.cell? ⟨b, j, none⟩ = some x := ⟨_, h.c j _ (List.getElem?_eq_getElem hj)⟩
set_option maxHeartbeats 4000000 in
theorem linUse_down (w va : World) (p : Nat) (F : Nat → Prop) (s : St) (mn P : Nat) (h1 : 1 ≤ mn) (h2 : 2 * mn ≤ s.n) (hd : s.down = true) (h : Hid (Dl w va p F s)) (hp : Hid (Blk va P [.pointer (some ⟨p, 0, none⟩), .int .i64 0, .int .i64 (mn : Int), .pointer (some ⟨p, 0, none⟩), .int .i64 (mn : Int), .int .i64 (mn : Int)])) :
    Calls Tryz.prog 63 #[.slice (some ⟨P, 0, none⟩) 2 2] va fun e w' => e = .returned (.tuple #[.agg hz0.toArray, .int .i64 150]) ∧ Below va.heap.size va w' := by
  have I0 : Hid (Us va p s mn P va.heap.size (va.heap.size + 1) none (.slice none 0 0) ((va.alloc (.cells hz0.toArray 130)).alloc (.cells hz0.toArray 130))) :=
    ⟨(Blk.new va hz0 _ (by simp)).later (nb _ _), blk_two va _ hz0 _ (by simp), hp.out.later (chain (nb _ _) (nb _ _)), owns_nilS _, chain (nb _ _) (nb _ _), Nat.le_refl _, Nat.le_succ _, by omega, hp.out.lt, nofun, nofun, nofun⟩
  have gm : mn ≤ 512 := by have := h.out.at_.1.n2; omega
  have FD : Hid (∀ W, Below va.heap.size va W → Calls Tryz.prog 100 #[.agg #[.pointer (some ⟨p, 0, none⟩), .int .i64 0, .int .i64 (mn : Int)]] W fun e w' => e = .returned (.tuple #[.agg hz0.toArray, .int .i64 150]) ∧ Below W.heap.size W w') := fun W hb => lfind_down w W p F s 0 mn h1 (by omega) hd (h.out.later hb)
  clear h hp h1 h2 hd
  go_enter Tryz.func63, Tryz.ntmps63
  go_wp2
  go_loopw [11] (fun i wr => i = .int .i64 0 ∧ Hid (Us va p s mn P va.heap.size (va.heap.size + 1) none (.slice none 0 0) wr)) (fun _ _ => 0)
  case atStart => exact ⟨rfl, I0.out⟩
  case round =>
    obtain ⟨rfl, I⟩ := hrel
    clear I0
    have c0 := I.out.pl.c 0 _ rfl
    have c1 := I.out.pl.c 1 _ rfl
    have c2 := I.out.pl.c 2 _ rfl
    have I1 : Hid (Us va p s mn P va.heap.size (va.heap.size + 1) none (.slice none 0 0) (wr.alloc (.cells #[.pointer (some ⟨p, 0, none⟩), .int .i64 0, .int .i64 (mn : Int)] 128))) := I.out.later (nb _ _)
    clear I
    go_wp2_with fail
    refine Calls.mono (FD.out _ I1.out.bl) ?_
    rintro e w2 ⟨rfl, hb2⟩
    have I2 : Hid (Us va p s mn P va.heap.size (va.heap.size + 1) none (.slice none 0 0) (w2.alloc (.cells #[.pointer none, .int .i64 0, .int .i64 0, .int .i64 0, .slice none 0 0, .int .i64 0, .string ⟨#[]⟩] 130))) := (I1.out.later hb2).later (nb _ _)
    clear I1 hb2 c0 c1 c2 FD
    have z0 := I2.out.bc.c 0 _ rfl
    have z1 := I2.out.bc.c 1 _ rfl
    have z2 := I2.out.bc.c 2 _ rfl
    have z3 := I2.out.bc.c 3 _ rfl
    have z4 := I2.out.bc.c 4 _ rfl
    have z5 := I2.out.bc.c 5 _ rfl
    have z6 := I2.out.bc.c 6 _ rfl
    have zf := I2.out.bc.f
    have FI : Hid (Blk ((w2.alloc (.cells #[.pointer none, .int .i64 0, .int .i64 0, .int .i64 0, .slice none 0 0, .int .i64 0, .string ⟨#[]⟩] 130)).setCells va.heap.size 0 hz0) va.heap.size hz0 ∧ Below va.heap.size va ((w2.alloc (.cells #[.pointer none, .int .i64 0, .int .i64 0, .int .i64 0, .slice none 0 0, .int .i64 0, .string ⟨#[]⟩] 130)).setCells va.heap.size 0 hz0)) := ⟨I2.out.bc.put _ rfl, below_sets (Nat.le_refl _) _ 0 I2.out.bl⟩
    clear I2
    go_wp2
    refine bodyPost_ret (v := .tuple #[.agg hz0.toArray, .int .i64 150]) ?_ rfl ⟨rfl, FI.out.2⟩
    exact res_c2 Tryz.results63 _ _ va.heap.size _ _ (by kernel_rfl) (by kernel_rfl) (run_loadVar_mid _ va.heap.size 0 130 hz0 _ FI.out.1.r Tryz.underlying130 rfl (by kernel_rfl))
set_option maxHeartbeats 8000000 in
theorem linUse_up (w va : World) (p : Nat) (F : Nat → Prop) (s : St) (mn P : Nat) (h1 : 1 ≤ mn) (h2 : 2 * mn ≤ s.n) (hd : s.down = false) (hk : Hid (Kh w)) (h : Hid (Dl w va p F s)) (hp : Hid (Blk va P [.pointer (some ⟨p, 0, none⟩), .int .i64 0, .int .i64 (mn : Int), .pointer (some ⟨p, 0, none⟩), .int .i64 (mn : Int), .int .i64 (mn : Int)])) :
    Calls Tryz.prog 63 #[.slice (some ⟨P, 0, none⟩) 2 2] va fun e w' => ∃ v, e = .returned (.tuple #[.agg (cO s p mn v (us s mn 2)).toArray, .int .i64 0]) ∧ OwnsS w' v (tO s mn (us s mn 2)) ∧ (∀ x, v.ownBlock = some x → va.heap.size ≤ x) ∧ Below va.heap.size va w' := by
  have I0 : Hid (Us va p s mn P va.heap.size (va.heap.size + 1) none (.slice none 0 0) ((va.alloc (.cells hz0.toArray 130)).alloc (.cells hz0.toArray 130))) :=
    ⟨(Blk.new va hz0 _ (by simp)).later (nb _ _), blk_two va _ hz0 _ (by simp), hp.out.later (chain (nb _ _) (nb _ _)), owns_nilS _, chain (nb _ _) (nb _ _), Nat.le_refl _, Nat.le_succ _, by omega, hp.out.lt, nofun, nofun, nofun⟩
  have gm : mn ≤ 512 := by have := h.out.at_.1.n2; omega
  have FU : Hid (∀ W fr, Below va.heap.size va W → fr + mn ≤ s.n → Calls Tryz.prog 100 #[.agg #[.pointer (some ⟨p, 0, none⟩), .int .i64 (fr : Int), .int .i64 (mn : Int)]] W fun e w' => FdP W p s fr mn e w') := fun W fr hb hf => lfind_up w W p F s fr mn h1 hf hd hk (h.out.later hb)
  have H2 : Hid (2 * mn ≤ s.n) := h2
  clear h hp hk h1 h2 hd
  go_enter Tryz.func63, Tryz.ntmps63
  go_wp2
  go_loopw [11] (fun i wr => ∃ (k : Nat) (v : Value), k ≤ 2 ∧ i = .int .i64 (k : Int) ∧ Hid (Us va p s mn P va.heap.size (va.heap.size + 1) (us s mn k) v wr)) (fun i _ => 2 - (intOf i).toNat)
  case atStart => exact ⟨0, _, by decide, rfl, I0.out⟩
  case round =>
    obtain ⟨k, v, hk2, rfl, I⟩ := hrel
    clear I0
    by_cases hlt : k < 2
    · have HU : Hid (us s mn (k + 1) = if gO s mn (us s mn k) < gen (hb s (k * mn) mn) then some (k * mn) else us s mn k) := rfl
      obtain ⟨o, ho⟩ : ∃ o, us s mn k = o := ⟨_, rfl⟩
      rw [ho] at I HU
      clear ho
      obtain ⟨fr, hfr⟩ : ∃ fr, k * mn = fr := ⟨_, rfl⟩
      rw [hfr] at HU
      have CP : wr.cell? ⟨P, k * 3, none⟩ = some (.pointer (some ⟨p, 0, none⟩)) ∧ wr.cell? ⟨P, k * 3 + 1, none⟩ = some (.int .i64 (fr : Int)) ∧ wr.cell? ⟨P, k * 3 + 2, none⟩ = some (.int .i64 (mn : Int)) ∧ fr + mn ≤ s.n ∧ fr ≤ 512 := by
        have := H2.out
        rcases (by omega : k = 0 ∨ k = 1) with rfl | rfl
        · have e : fr = 0 := by omega
          subst e
          exact ⟨I.out.pl.c 0 _ rfl, I.out.pl.c 1 _ rfl, I.out.pl.c 2 _ rfl, by omega, by omega⟩
        · have e : fr = mn := by omega
          subst e
          exact ⟨I.out.pl.c 3 _ rfl, I.out.pl.c 4 _ rfl, I.out.pl.c 5 _ rfl, by omega, by omega⟩
      obtain ⟨c0, c1, c2, c3, c4⟩ := CP
      have I1 : Hid (Us va p s mn P va.heap.size (va.heap.size + 1) o v (wr.alloc (.cells #[.pointer (some ⟨p, 0, none⟩), .int .i64 (fr : Int), .int .i64 (mn : Int)] 128))) := I.out.later (nb _ _)
      have g1 : (k : Int) < 2 := by omega
      have F1 : Hid _ := FU.out _ fr I1.out.bl c3
      have I1N : Hid (va.heap.size + 2 ≤ wr.heap.size) := I.out.bb.lt
      clear I hfr
      go_wp2_with fail
      refine Calls.mono F1.out ?_
      rintro e w2 ⟨v2, rfl, r2, n2, b2⟩
      obtain ⟨xa, xn, xc, rfl⟩ := owns_sliceS r2
      have I2 : Hid (Us va p s mn P va.heap.size (va.heap.size + 1) o v w2 ∧ OwnsS w2 (.slice xa xn xc) (fT s fr mn) ∧ (∀ x, (Value.slice xa xn xc).ownBlock = some x → wr.heap.size ≤ x)) := ⟨I1.out.later b2, r2, fun x e => by have := n2 x e; simp at this; omega⟩
      have N2 : Hid (va.heap.size + 2 ≤ wr.heap.size) := I1N.out
      clear r2 n2 b2 I1 F1 c0 c1 c2
      have HO : Hid (cO s p mn (.slice xa xn xc) (some fr) = hc p fr mn (gen (hb s fr mn)) (.slice xa xn xc) (fK s fr mn) (fM s fr mn) [] ∧ tO s mn (some fr) = fT s fr mn) := ⟨rfl, rfl⟩
      obtain ⟨g, hg⟩ : ∃ g, gen (hb s fr mn) = g := ⟨_, rfl⟩
      obtain ⟨tk, htk⟩ : ∃ tk, fK s fr mn = tk := ⟨_, rfl⟩
      obtain ⟨m, hmm⟩ : ∃ m, fM s fr mn = m := ⟨_, rfl⟩
      rw [hg, htk, hmm] at HO
      rw [hg] at HU
      rw [hg, htk, hmm]
      clear hg htk hmm
      have e7 : hv p fr mn g (.slice xa xn xc) tk m = .agg #[.pointer (some ⟨p, 0, none⟩), .int .i64 (fr : Int), .int .i64 (mn : Int), .int .i64 (g : Int), .slice xa xn xc, .int .i64 (tk : Int), .string (st m)] := rfl
      rw [e7]
      clear e7
      have I3 : Hid (Us va p s mn P va.heap.size (va.heap.size + 1) o v (w2.alloc (.cells #[.pointer (some ⟨p, 0, none⟩), .int .i64 (fr : Int), .int .i64 (mn : Int), .int .i64 (g : Int), .slice xa xn xc, .int .i64 (tk : Int), .string (st m)] 130)) ∧ OwnsS (w2.alloc (.cells #[.pointer (some ⟨p, 0, none⟩), .int .i64 (fr : Int), .int .i64 (mn : Int), .int .i64 (g : Int), .slice xa xn xc, .int .i64 (tk : Int), .string (st m)] 130)) (.slice xa xn xc) (fT s fr mn)) := ⟨I2.out.1.later (nb _ _), ownsRow_same I2.out.2.1 (fun x e => (nb w2 (.cells #[.pointer (some ⟨p, 0, none⟩), .int .i64 (fr : Int), .int .i64 (mn : Int), .int .i64 (g : Int), .slice xa xn xc, .int .i64 (tk : Int), .string (st m)] 130)).block x (I2.out.2.1.lt x e).2)⟩
      have NN : Hid ((Value.slice xa xn xc).ownBlock ≠ some va.heap.size ∧ (Value.slice xa xn xc).ownBlock ≠ some (va.heap.size + 1) ∧ ∀ x, (Value.slice xa xn xc).ownBlock = some x → va.heap.size ≤ x) := by
        have h1 := N2.out
        exact ⟨fun e => by have := I2.out.2.2 _ e; omega, fun e => by have := I2.out.2.2 _ e; omega, fun x e => by have := I2.out.2.2 _ e; omega⟩
      have q3 := I3.out.1.bb.c 3 _ (cO_g s p mn v o)
      obtain ⟨y, hy⟩ : ∃ y, gO s mn o = y := ⟨_, rfl⟩
      rw [hy] at q3 HU
      clear hy I2
      by_cases hgt : y < g
      · have g2 : (y : Int) < (g : Int) := by omega
        rw [if_pos hgt] at HU
        obtain ⟨x0, q0⟩ := I3.out.1.bb.ex 0 (by rw [cO_len]; decide)
        obtain ⟨x1, q1⟩ := I3.out.1.bb.ex 1 (by rw [cO_len]; decide)
        obtain ⟨x2, q2⟩ := I3.out.1.bb.ex 2 (by rw [cO_len]; decide)
        obtain ⟨x4, q4⟩ := I3.out.1.bb.ex 4 (by rw [cO_len]; decide)
        obtain ⟨x5, q5⟩ := I3.out.1.bb.ex 5 (by rw [cO_len]; decide)
        obtain ⟨x6, q6⟩ := I3.out.1.bb.ex 6 (by rw [cO_len]; decide)
        have qf := I3.out.1.bb.f
        have FI : Hid (Us va p s mn P va.heap.size (va.heap.size + 1) (some fr) (.slice xa xn xc) ((w2.alloc (.cells #[.pointer (some ⟨p, 0, none⟩), .int .i64 (fr : Int), .int .i64 (mn : Int), .int .i64 (g : Int), .slice xa xn xc, .int .i64 (tk : Int), .string (st m)] 130)).setCells (va.heap.size + 1) 0 (hc p fr mn g (.slice xa xn xc) tk m []))) := by
          have := I3.out.1.better (o' := some fr) (v' := .slice xa xn xc) I3.out.2 NN.out.1 NN.out.2.1 NN.out.2.2
          rw [HO.out.1] at this
          exact this
        clear I3 HO NN
        go_wp2
        go_roundw
        case rel => exact ⟨k + 1, .slice xa xn xc, by omega, rfl, by rw [HU.out]; exact FI.out⟩
        case measure => simp [intOf]; omega
      · have g2 : ¬ (y : Int) < (g : Int) := by omega
        rw [if_neg hgt] at HU
        have FI : Hid (Us va p s mn P va.heap.size (va.heap.size + 1) o v (w2.alloc (.cells #[.pointer (some ⟨p, 0, none⟩), .int .i64 (fr : Int), .int .i64 (mn : Int), .int .i64 (g : Int), .slice xa xn xc, .int .i64 (tk : Int), .string (st m)] 130))) := I3.out.1
        clear I3 HO NN
        go_wp2
        go_roundw
        case rel => exact ⟨k + 1, v, by omega, rfl, by rw [HU.out]; exact FI.out⟩
        case measure => simp [intOf]; omega
    · obtain rfl : k = 2 := by omega
      obtain ⟨o, ho⟩ : ∃ o, us s mn 2 = o := ⟨_, rfl⟩
      rw [ho] at I
      have HO : Hid (us s mn 2 = o) := ho
      clear ho
      obtain ⟨xa, xn, xc, rfl⟩ := owns_sliceS I.out.row
      have z0 := I.out.bc.c 0 _ rfl
      have z1 := I.out.bc.c 1 _ rfl
      have z2 := I.out.bc.c 2 _ rfl
      have z3 := I.out.bc.c 3 _ rfl
      have z4 := I.out.bc.c 4 _ rfl
      have z5 := I.out.bc.c 5 _ rfl
      have z6 := I.out.bc.c 6 _ rfl
      have zf := I.out.bc.f
      have FI : Hid _ := I.out.ret
      have NV : Hid _ := I.out.nv
      cases o with
      | none =>
        have k0 := I.out.bb.c 0 _ rfl
        have k1 := I.out.bb.c 1 _ rfl
        have k2 := I.out.bb.c 2 _ rfl
        have k3 := I.out.bb.c 3 _ rfl
        have k4 := I.out.bb.c 4 _ rfl
        have k5 := I.out.bb.c 5 _ rfl
        have k6 := I.out.bb.c 6 _ rfl
        clear I
        go_wp2
        refine bodyPost_ret (v := .tuple #[.agg (cO s p mn (.slice xa xn xc) none).toArray, .int .i64 0]) ?_ rfl ⟨.slice xa xn xc, by rw [HO.out], by rw [HO.out]; exact FI.out.2.2, NV.out, FI.out.2.1⟩
        exact res_c2 Tryz.results63 _ _ va.heap.size _ _ (by kernel_rfl) (by kernel_rfl) (run_loadVar_mid _ va.heap.size 0 130 (cO s p mn (.slice xa xn xc) none) _ FI.out.1.r Tryz.underlying130 rfl (by kernel_rfl))
      | some fr =>
        have k0 := I.out.bb.c 0 _ rfl
        have k1 := I.out.bb.c 1 _ rfl
        have k2 := I.out.bb.c 2 _ rfl
        have k3 := I.out.bb.c 3 _ rfl
        have k4 := I.out.bb.c 4 _ rfl
        have k5 := I.out.bb.c 5 _ rfl
        have k6 := I.out.bb.c 6 _ rfl
        clear I
        go_wp2
        refine bodyPost_ret (v := .tuple #[.agg (cO s p mn (.slice xa xn xc) (some fr)).toArray, .int .i64 0]) ?_ rfl ⟨.slice xa xn xc, by rw [HO.out], by rw [HO.out]; exact FI.out.2.2, NV.out, FI.out.2.1⟩
        exact res_c2 Tryz.results63 _ _ va.heap.size _ _ (by kernel_rfl) (by kernel_rfl) (run_loadVar_mid _ va.heap.size 0 130 (cO s p mn (.slice xa xn xc) (some fr)) _ FI.out.1.r Tryz.underlying130 rfl (by kernel_rfl))
end Go.Proofs.YtjpaodepnacimaaGreatDoor
namespace Go.Proofs.YtjpaodepnacimaaGreatDoor
open Go.RowKit Go.Proofs.Fd Go.Proofs.Dk Go.Proofs.Lg
set_option maxRecDepth 20000
def StepP (P : World → Prop) (E : Int → World → Prop) (e : Ending) (w' : World) : Prop := ∃ x, e = .returned (.int .i64 x) ∧ (x = 0 ∧ P w' ∨ x ≠ 0 ∧ E x w')
def fsv (q p fr mn : Nat) : List Value := [.func (.func 66) #[.pointer (some ⟨q, 0, none⟩)] #[], .func (.func 102) #[.pointer (some ⟨q, 0, none⟩)] #[], .func (.func 96) #[plc p fr mn] #[], .func (.func 103) #[.pointer (some ⟨q, 0, none⟩)] #[], .func (.func 96) #[plc p fr mn] #[]]
set_option maxHeartbeats 4000000 in
theorem linOrder_any (q p fr mn C : Nat) (P : Nat → World → Prop) (E : Int → World → Prop)
    (hc : Hid (∀ k wr, k < 5 → P k wr → Blk wr C (fsv q p fr mn)))
    (S0 : Hid (∀ wr, P 0 wr → Calls Tryz.prog 66 #[.pointer (some ⟨q, 0, none⟩)] wr fun e w' => StepP (P 1) E e w'))
    (S1 : Hid (∀ wr, P 1 wr → Calls Tryz.prog 102 #[.pointer (some ⟨q, 0, none⟩)] wr fun e w' => StepP (P 2) E e w'))
    (S2 : Hid (∀ wr, P 2 wr → Calls Tryz.prog 96 #[plc p fr mn] wr fun e w' => StepP (P 3) E e w'))
    (S3 : Hid (∀ wr, P 3 wr → Calls Tryz.prog 103 #[.pointer (some ⟨q, 0, none⟩)] wr fun e w' => StepP (P 4) E e w'))
    (S4 : Hid (∀ wr, P 4 wr → Calls Tryz.prog 96 #[plc p fr mn] wr fun e w' => StepP (P 5) E e w'))
    (va : World) (h : Hid (P 0 va)) : Calls Tryz.prog 101 #[.slice (some ⟨C, 0, none⟩) 5 5] va fun e w' => StepP (P 5) E e w' := by
  unfold plc at *
  go_enter Tryz.func101, Tryz.ntmps101
  go_wp2
  go_loopw [8] (fun i wr => ∃ k : Nat, k ≤ 5 ∧ i = .int .i64 (k : Int) ∧ Hid (P k wr)) (fun i _ => 5 - (intOf i).toNat)
  case atStart => exact ⟨0, by decide, rfl, h.out⟩
  case round =>
    obtain ⟨k, hk5, rfl, I⟩ := hrel
    clear h
    by_cases hlt : k < 5
    · have B := hc.out k wr hlt I.out
      rcases (by omega : k = 0 ∨ k = 1 ∨ k = 2 ∨ k = 3 ∨ k = 4) with rfl | rfl | rfl | rfl | rfl
      · have c0 := B.c 0 _ rfl
        have ST : Hid _ := S0.out wr I.out
        clear S0 S1 S2 S3 S4 hc B I
        unfold plc at *
        go_wp2_with fail
        refine Calls.mono ST.out ?_
        rintro e w1 ⟨x, rfl, hx⟩
        by_cases h0 : x = 0
        · subst h0
          have J : Hid (P 1 w1) := by
            rcases hx with ⟨-, h⟩ | ⟨h, -⟩
            · exact h
            · exact absurd rfl h
          clear hx c0 ST
          go_wp2
          go_roundw
          case rel => exact ⟨1, by decide, rfl, J.out⟩
          case measure => simp [intOf]
        · have J : Hid (E x w1) := by
            rcases hx with ⟨h, -⟩ | ⟨-, h⟩
            · exact absurd h h0
            · exact h
          clear hx c0 ST
          go_wp2
          go_ret
          exact ⟨x, rfl, .inr ⟨h0, J.out⟩⟩
      · have c0 := B.c 1 _ rfl
        have ST : Hid _ := S1.out wr I.out
        clear S0 S1 S2 S3 S4 hc B I
        unfold plc at *
        go_wp2_with fail
        refine Calls.mono ST.out ?_
        rintro e w1 ⟨x, rfl, hx⟩
        by_cases h0 : x = 0
        · subst h0
          have J : Hid (P 2 w1) := by
            rcases hx with ⟨-, h⟩ | ⟨h, -⟩
            · exact h
            · exact absurd rfl h
          clear hx c0 ST
          go_wp2
          go_roundw
          case rel => exact ⟨2, by decide, rfl, J.out⟩
          case measure => simp [intOf]
        · have J : Hid (E x w1) := by
            rcases hx with ⟨h, -⟩ | ⟨-, h⟩
            · exact absurd h h0
            · exact h
          clear hx c0 ST
          go_wp2
          go_ret
          exact ⟨x, rfl, .inr ⟨h0, J.out⟩⟩
      · have c0 := B.c 2 _ rfl
        have ST : Hid _ := S2.out wr I.out
        clear S0 S1 S2 S3 S4 hc B I
        unfold plc at *
        go_wp2_with fail
        refine Calls.mono ST.out ?_
        rintro e w1 ⟨x, rfl, hx⟩
        by_cases h0 : x = 0
        · subst h0
          have J : Hid (P 3 w1) := by
            rcases hx with ⟨-, h⟩ | ⟨h, -⟩
            · exact h
            · exact absurd rfl h
          clear hx c0 ST
          go_wp2
          go_roundw
          case rel => exact ⟨3, by decide, rfl, J.out⟩
          case measure => simp [intOf]
        · have J : Hid (E x w1) := by
            rcases hx with ⟨h, -⟩ | ⟨-, h⟩
            · exact absurd h h0
            · exact h
          clear hx c0 ST
          go_wp2
          go_ret
          exact ⟨x, rfl, .inr ⟨h0, J.out⟩⟩
      · have c0 := B.c 3 _ rfl
        have ST : Hid _ := S3.out wr I.out
        clear S0 S1 S2 S3 S4 hc B I
        unfold plc at *
        go_wp2_with fail
        refine Calls.mono ST.out ?_
        rintro e w1 ⟨x, rfl, hx⟩
        by_cases h0 : x = 0
        · subst h0
          have J : Hid (P 4 w1) := by
            rcases hx with ⟨-, h⟩ | ⟨h, -⟩
            · exact h
            · exact absurd rfl h
          clear hx c0 ST
          go_wp2
          go_roundw
          case rel => exact ⟨4, by decide, rfl, J.out⟩
          case measure => simp [intOf]
        · have J : Hid (E x w1) := by
            rcases hx with ⟨h, -⟩ | ⟨-, h⟩
            · exact absurd h h0
            · exact h
          clear hx c0 ST
          go_wp2
          go_ret
          exact ⟨x, rfl, .inr ⟨h0, J.out⟩⟩
      · have c0 := B.c 4 _ rfl
        have ST : Hid _ := S4.out wr I.out
        clear S0 S1 S2 S3 S4 hc B I
        unfold plc at *
        go_wp2_with fail
        refine Calls.mono ST.out ?_
        rintro e w1 ⟨x, rfl, hx⟩
        by_cases h0 : x = 0
        · subst h0
          have J : Hid (P 5 w1) := by
            rcases hx with ⟨-, h⟩ | ⟨h, -⟩
            · exact h
            · exact absurd rfl h
          clear hx c0 ST
          go_wp2
          go_roundw
          case rel => exact ⟨5, by decide, rfl, J.out⟩
          case measure => simp [intOf]
        · have J : Hid (E x w1) := by
            rcases hx with ⟨h, -⟩ | ⟨-, h⟩
            · exact absurd h h0
            · exact h
          clear hx c0 ST
          go_wp2
          go_ret
          exact ⟨x, rfl, .inr ⟨h0, J.out⟩⟩
    · obtain rfl : k = 5 := by omega
      have FF : Hid (P 5 wr) := I.out
      clear S0 S1 S2 S3 S4 hc
      go_wp2
      go_ret
      exact ⟨0, rfl, .inl ⟨rfl, FF.out⟩⟩
end Go.Proofs.YtjpaodepnacimaaGreatDoor
namespace Go.Proofs.YtjpaodepnacimaaGreatDoor
open Go.RowKit Go.Proofs.Fd Go.Proofs.Dk Go.Proofs.Lg
set_option maxRecDepth 20000
def TxAt (w : World) (a : Option Addr) (l : List Bs) : Prop := ∀ i (hi : i < l.length), ∃ b o, a = some ⟨b, o, none⟩ ∧ w.cell? ⟨b, o + i, none⟩ = some (sv l[i])
theorem TxAt.nil (w : World) (a : Option Addr) : TxAt w a [] := fun _ hi => absurd hi (Nat.not_lt_zero _)
theorem TxAt.later {w w' : World} {a : Option Addr} {l : List Bs} (h : TxAt w a l) (hb : Below w.heap.size w w') : TxAt w' a l := fun i hi => by
  obtain ⟨b, o, e, hc⟩ := h i hi
  exact ⟨b, o, e, cell_later hb hc⟩
def Ap (a : Option Addr) (l : List Bs) (G : Nat → Prop) : Prop := ∀ x, a = some x → 0 < l.length → ¬ G x.block
theorem TxAt.lt {w : World} {a : Option Addr} {l : List Bs} (h : TxAt w a l) : ∀ x, a = some x → 0 < l.length → x.block < w.heap.size := fun x e h0 => by
  obtain ⟨b, o, e', hc⟩ := h 0 h0
  rw [e'] at e
  injection e with e
  subst e
  exact World.block_lt_of_cell? _ _ hc
theorem TxAt.bf {w w' : World} {a : Option Addr} {l : List Bs} (h : TxAt w a l) {G : Nat → Prop} (hb : Bf G w w') (ha : Ap a l G) : TxAt w' a l := fun i hi => by
  obtain ⟨b, o, e, hc⟩ := h i hi
  exact ⟨b, o, e, hb.cell hc (show ¬ G b from ha ⟨b, o, none⟩ e (by omega))⟩
theorem Ap.nx {w : World} {a : Option Addr} {l : List Bs} {G G' : Nat → Prop} (ha : Ap a l G) (h : TxAt w a l) (hx : Nx w G G') : Ap a l G' := fun x e h0 => hx.apart (ha x e h0) (h.lt x e h0)
theorem wrs_len : ∀ (bs : List Bs) (s : St) (k : Nat), (wrs s k bs).2.l.length ≤ s.l.length + bs.length
  | [], _, _ => Nat.le_refl _
  | b :: bs, s, k => by
    rw [wrs]
    have h1 := wrS_len s (k : Int) b
    by_cases h : wrE s (k : Int) b = 0
    · rw [thn_ok h]
      have := wrs_len bs (wrS s (k : Int) b) (k + 1)
      rw [List.length_cons]
      exact Nat.le_trans this (by omega)
    · rw [thn_no h, List.length_cons]
      exact Nat.le_trans h1 (by omega)
theorem wrb_len (s : St) (k : Nat) (b : Bs) : (wrb s k b).2.l.length ≤ s.l.length + b.length / 64 := by
  have := wrs_len (chs (b.length / 64) b) s k
  rw [chs_len] at this
  exact this
structure Fl (w va : World) (p : Nat) (F : Nat → Prop) (s : St) (q fr mn g : Nat) (v : Value) (a : Option Addr) (n c : Nat) (l : List Bs) (r : Int × St) (k : Nat) (wr : World) (F' : Nat → Prop) (s' : St) (v' : Value) : Prop where
  hd : HD w wr p F' s' q fr mn g v' (l.take k) (tkn 1 (l.take k)) (mks (hm g) (l.take k)) [.slice a n c]
  nx : Nx2 va F q v F' v'
  bf : Bf (FH F q v) va wr
  ln : s'.l.length + 1 ≤ s.l.length + tkn 1 (l.take k)
  eq : r = pts s' fr (tkn 1 (l.take k)) (mks (hm g) (l.take k)) (l.drop k)
  tx : TxAt wr a l
def FlP (w va : World) (p : Nat) (F : Nat → Prop) (q fr mn g : Nat) (v : Value) (more : List Value) (l : List Bs) (y : Int × St) (w' : World) : Prop :=
  ∃ F' v' ts' tk' m', Nx2 va F q v F' v' ∧ Bf (FH F q v) va w' ∧ HD w w' p F' y.2 q fr mn g v' ts' tk' m' more ∧ (y.1 = 0 → ts' = l ∧ tk' = tkn 1 l ∧ m' = mks (hm g) l)
theorem tkn_take (l : List Bs) (k : Nat) (hk : k < l.length) : tkn 1 (l.take (k + 1)) = tkn 1 (l.take k) + sn l[k] := by
  rw [List.take_succ_eq_append_getElem hk, tkn_app]
theorem mks_take (a : Bs) (l : List Bs) (k : Nat) (hk : k < l.length) : mks a (l.take (k + 1)) = rmk (mks a (l.take k)) l[k] := by
  rw [List.take_succ_eq_append_getElem hk, mks_app]
theorem tkn_mono (l : List Bs) (k : Nat) : tkn 1 (l.take k) ≤ tkn 1 l := by
  rw [tkn_sns, tkn_sns]
  have : ∀ (l : List Bs) (k : Nat), sns (l.take k) ≤ sns l := fun l => by
    induction l with
    | nil => intro k; rw [List.take_nil]; exact Nat.le_refl _
    | cons t l ih =>
      intro k
      cases k with
      | zero => exact Nat.zero_le _
      | succ k => rw [List.take_succ_cons, sns, sns]; have := ih k; omega
  have := this l k
  omega
set_option maxHeartbeats 4000000 in
theorem lfill_any (w va : World) (p : Nat) (F : Nat → Prop) (s : St) (q fr mn g : Nat) (v : Value) (tk : Nat) (m : Bs) (a : Option Addr) (n c : Nat) (l : List Bs) (hn : l.length = n) (ht : ∀ t ∈ l, t.length ≤ 2000) (hs : tkn 1 l ≤ mn) (hz : fr + mn ≤ 3000) (hl : s.l.length + mn + 200 ≤ 1000000) (hk : Hid (Kh w)) (h : Hid (HD w va p F s q fr mn g v [] tk m [.slice a n c])) (hx : Hid (TxAt va a l)) (ha : Hid (Ap a l (FH F q v))) :
    Calls Tryz.prog 102 #[.pointer (some ⟨q, 0, none⟩)] va fun e w' => e = .returned (.int .i64 (pts s fr 1 (hm g) l).1) ∧ FlP w va p F q fr mn g v [.slice a n c] l (pts s fr 1 (hm g) l) w' := by
  have GO : Hid _ := lgoOn_any q p fr mn g v [] tk m [.slice a n c] va (h.out.kh hk.out) h.out.hf
  obtain ⟨r, hr⟩ : ∃ r, pts s fr 1 (hm g) l = r := ⟨_, rfl⟩
  rw [hr]
  have HLL : Hid (∀ t ∈ l, t.length ≤ 2000) := ht
  have HN : Hid (l.length = n) := hn
  have hnn : n ≤ 5000 := by
    have := tkn_ge_len l
    omega
  have I0 : Hid (∀ W, Hf W q p fr mn g v [] 1 (hm g) [.slice a n c] → Bf (fun x => x = q) va W → Fl w va p F s q fr mn g v a n c l r 0 W F s v) := fun W k hb => by
    have hw : ∀ x, x = q → FH F q v x := fun x e => .inr (.inl e)
    exact ⟨h.out.half k (hb.wide fun x e => .inl e) (Nx.refl _ _), Nx2.refl _ _ _ _, hb.wide hw, Nat.le_refl _, hr.symm, hx.out.bf (hb.wide hw) ha.out⟩
  have HAP : Hid (∀ (W : World) (G' : Nat → Prop), Nx va (FH F q v) G' → Ap a l G') := fun W G' k => ha.out.nx hx.out k
  have AD : Hid (∀ W F' s' v' (k : Nat) (hk' : k < l.length), s'.l.length + 100 ≤ 1000000 → HD w W p F' s' q fr mn g v' (l.take k) (tkn 1 (l.take k)) (mks (hm g) (l.take k)) [.slice a n c] → Calls Tryz.prog 91 #[.pointer (some ⟨q, 0, none⟩), sv l[k]] W fun e w' => e = .returned (.int .i64 (wrb s' (fr + tkn 1 (l.take k)) (rcd (mks (hm g) (l.take k)) l[k])).1) ∧ AdP w W p F' q fr mn g v' (l.take k) (tkn 1 (l.take k)) (mks (hm g) (l.take k)) [.slice a n c] l[k] (wrb s' (fr + tkn 1 (l.take k)) (rcd (mks (hm g) (l.take k)) l[k])) w') := fun W F' s' v' k hk' hb hd =>
    ladd_any w W p F' s' q fr mn g v' (l.take k) _ _ _ l[k] (mks_len _ _ rfl) (ht _ (List.getElem_mem hk')) (by rw [List.length_take]; omega) (by have := tkn_mono l k; omega) hb hk hd
  clear hr h hx ha hk ht hn
  go_enter Tryz.func102, Tryz.ntmps102
  go_wp2_with fail
  refine Calls.mono GO.out ?_
  rintro e w1 ⟨rfl, h1, h2⟩
  have I1 : Hid _ := I0.out w1 h1 h2
  clear h1 h2 GO I0
  have k7 := I1.out.hd.hf.bk.c 7 _ rfl
  go_wp2
  clear k7
  go_loopw [15] (fun i wr => ∃ (k : Nat) (F' : Nat → Prop) (s' : St) (v' : Value), k ≤ n ∧ i = .int .i64 (k : Int) ∧ Hid (Fl w va p F s q fr mn g v a n c l r k wr F' s' v')) (fun i _ => n - (intOf i).toNat)
  case atStart => exact ⟨0, F, s, v, Nat.zero_le _, rfl, I1.out⟩
  case round =>
    obtain ⟨k, F', s', v', hkn, rfl, I⟩ := hrel
    clear I1
    by_cases hlt : k < n
    · have hkl : k < l.length := by rw [HN.out]; exact hlt
      have g1 : (k : Int) < (n : Int) := by omega
      obtain ⟨b, o, rfl, c0⟩ := I.out.tx k hkl
      have hr2 := I.out.eq
      rw [List.drop_eq_getElem_cons hkl, pts] at hr2
      have hln := I.out.ln
      have hmo := tkn_mono l k
      have A1 : Hid _ := AD.out wr F' s' v' k hkl (by omega) I.out.hd
      have HW := wrb_len s' (fr + tkn 1 (l.take k)) (rcd (mks (hm g) (l.take k)) l[k])
      rw [rcd_len, show 64 * sn l[k] / 64 = sn l[k] by omega] at HW
      have EK := tkn_take l k hkl
      have EM := mks_take (hm g) l k hkl
      have ET : l.take (k + 1) = l.take k ++ [l[k]] := List.take_succ_eq_append_getElem hkl
      obtain ⟨y, hy⟩ : ∃ y, wrb s' (fr + tkn 1 (l.take k)) (rcd (mks (hm g) (l.take k)) l[k]) = y := ⟨_, rfl⟩
      rw [hy] at hr2 A1 HW
      obtain ⟨t, ht⟩ : ∃ t, l[k] = t := ⟨_, rfl⟩
      rw [ht] at A1 c0 EK EM ET hr2 HW
      have HR : Hid (r = thn y fun s'' => pts s'' fr (tkn 1 (l.take k) + sn t) (rmk (mks (hm g) (l.take k)) t) (l.drop (k + 1))) := hr2
      have HEQ : Hid (tkn 1 (l.take (k + 1)) = tkn 1 (l.take k) + sn t ∧ mks (hm g) (l.take (k + 1)) = rmk (mks (hm g) (l.take k)) t ∧ l.take (k + 1) = l.take k ++ [t]) := ⟨EK, EM, ET⟩
      have HLN : Hid (y.2.l.length + 1 ≤ s.l.length + (tkn 1 (l.take k) + sn t)) := (show y.2.l.length + 1 ≤ s.l.length + (tkn 1 (l.take k) + sn t) by omega)
      have HAW : Hid (Ap (some ⟨b, o, none⟩) l (FH F' q v')) := HAP.out wr _ I.out.nx.fh
      clear hy ht hr2 EK EM ET hln hmo AD HAP
      obtain ⟨x, hx⟩ : ∃ x, y.1 = x := ⟨_, rfl⟩
      rw [hx] at A1
      have HX : Hid (y.1 = x) := hx
      clear hx
      unfold sv at A1 c0
      go_wp2_with fail
      refine Calls.mono A1.out ?_
      rintro e w2 ⟨rfl, F2, v2, n2, b2, hd2⟩
      by_cases h0 : x = 0
      · subst h0
        have J : Hid (Fl w va p F s q fr mn g v (some ⟨b, o, none⟩) n c l r (k + 1) w2 F2 y.2 v2) := by
          rcases hd2 with ⟨-, hd2⟩ | ⟨hne, -⟩
          · refine ⟨?_, I.out.nx.trans n2 I.out.bf.size, I.out.bf.trans I.out.nx.fh b2, ?_, ?_, I.out.tx.bf b2 HAW.out⟩
            · rw [HEQ.out.1, HEQ.out.2.1, HEQ.out.2.2]
              exact hd2
            · rw [HEQ.out.1]
              exact HLN.out
            · rw [HEQ.out.1, HEQ.out.2.1]
              exact HR.out.trans (thn_ok HX.out)
          · exact absurd HX.out hne
        clear hd2 n2 b2 I A1 c0
        go_wp2
        go_roundw
        case rel => exact ⟨k + 1, F2, y.2, v2, by omega, rfl, J.out⟩
        case measure => simp [intOf]; omega
      · have J : Hid (r = y ∧ FlP w va p F q fr mn g v [.slice (some ⟨b, o, none⟩) n c] l y w2) := by
          rcases hd2 with ⟨he, -⟩ | ⟨-, hd2⟩
          · exact absurd (HX.out.symm.trans he) h0
          · exact ⟨HR.out.trans (thn_no (by rw [HX.out]; exact h0)), F2, v2, _, _, _, I.out.nx.trans n2 I.out.bf.size, I.out.bf.trans I.out.nx.fh b2, hd2, fun e => absurd (HX.out.symm.trans e) h0⟩
        clear hd2 n2 b2 I A1 c0
        go_wp2
        go_ret
        exact ⟨by rw [J.out.1, HX.out]; rfl, by rw [J.out.1]; exact J.out.2⟩
    · obtain rfl : k = n := by omega
      have J : Hid (r = (0, s') ∧ FlP w va p F q fr mn g v [.slice a k c] l (0, s') wr) := by
        have h1 := I.out.eq
        have e1 : l.take k = l := List.take_of_length_le (by rw [HN.out]; exact Nat.le_refl _)
        have e2 : l.drop k = [] := List.drop_of_length_le (by rw [HN.out]; exact Nat.le_refl _)
        rw [e2, pts] at h1
        have h2 := I.out.hd
        rw [e1] at h2
        exact ⟨h1, F', v', _, _, _, I.out.nx, I.out.bf, h2, fun _ => ⟨rfl, rfl, rfl⟩⟩
      clear I
      go_wp2
      go_ret
      exact ⟨by rw [J.out.1]; rfl, by rw [J.out.1]; exact J.out.2⟩
end Go.Proofs.YtjpaodepnacimaaGreatDoor
namespace Go.Proofs.YtjpaodepnacimaaGreatDoor
open Go.RowKit Go.Proofs.Fd Go.Proofs.Dk Go.Proofs.Lg
set_option maxRecDepth 20000
theorem keepE {wa wb : World} {q : Nat} {x0 x1 x2 x3 : Value} (hb : Below wa.heap.size wa wb) (h : wa.cell? ⟨q, 0, none⟩ = some x0 ∧ wa.cell? ⟨q, 1, none⟩ = some x1 ∧ wa.cell? ⟨q, 2, none⟩ = some x2 ∧ wa.cell? ⟨q, 3, none⟩ = some x3) :
    wb.cell? ⟨q, 0, none⟩ = some x0 ∧ wb.cell? ⟨q, 1, none⟩ = some x1 ∧ wb.cell? ⟨q, 2, none⟩ = some x2 ∧ wb.cell? ⟨q, 3, none⟩ = some x3 := ⟨cell_later hb h.1, cell_later hb h.2.1, cell_later hb h.2.2.1, cell_later hb h.2.2.2⟩
theorem keepEd {w wa wb : World} {p : Nat} {F : Nat → Prop} {s : St} {q : Nat} {x0 x1 x2 x3 : Value} (hq : ¬ F q) (hd : Ds w wa p F s wb) (h : wa.cell? ⟨q, 0, none⟩ = some x0 ∧ wa.cell? ⟨q, 1, none⟩ = some x1 ∧ wa.cell? ⟨q, 2, none⟩ = some x2 ∧ wa.cell? ⟨q, 3, none⟩ = some x3) :
    wb.cell? ⟨q, 0, none⟩ = some x0 ∧ wb.cell? ⟨q, 1, none⟩ = some x1 ∧ wb.cell? ⟨q, 2, none⟩ = some x2 ∧ wb.cell? ⟨q, 3, none⟩ = some x3 := by
  obtain ⟨F', -, -, hb⟩ := hd
  exact ⟨hb.cell h.1 hq, hb.cell h.2.1 hq, hb.cell h.2.2.1 hq, hb.cell h.2.2.2 hq⟩
set_option maxHeartbeats 2000000 in
theorem lcrown_any (w va : World) (p : Nat) (F : Nat → Prop) (s : St) (q fr mn g : Nat) (v : Value) (ts : List Bs) (tk : Nat) (m : Bs) (more : List Value) (hz : fr ≤ 4000) (hl : s.l.length + 1 ≤ 1000000) (hk : Hid (Kh w)) (h : Hid (HD w va p F s q fr mn g v ts tk m more)) :
    Calls Tryz.prog 103 #[.pointer (some ⟨q, 0, none⟩)] va fun e w' => e = .returned (.int .i64 (wrb s fr (hd g)).1) ∧ Ds w va p F (wrb s fr (hd g)).2 w' := by
  have HH : Hid (∀ W, Kh W → Calls Tryz.prog 132 #[.int .i64 (g : Int)] W fun e w' => e = .returned (.string (st (hd g))) ∧ Below W.heap.size W w') := fun W k => lhead_any g W k
  have WR : Hid (∀ W, Dl w W p F s → Calls Tryz.prog 106 #[.agg #[.pointer (some ⟨p, 0, none⟩), .int .i64 (fr : Int), .int .i64 (mn : Int)], .int .i64 0, .string (st (hd g))] W fun e w' => e = .returned (.int .i64 (wrb s fr (hd g)).1) ∧ Ds w W p F (wrb s fr (hd g)).2 w') := fun W k => lwrite_any w W p F s fr 0 mn (hd g) 1 (hd_len g) (by decide) (by omega) (by omega) k
  have c0 := h.out.hf.bk.c 0 _ rfl
  have c1 := h.out.hf.bk.c 1 _ rfl
  have c2 := h.out.hf.bk.c 2 _ rfl
  have c3 := h.out.hf.bk.c 3 _ rfl
  have NQ : Hid (¬ F q) := (h.out.ap q (.inl rfl)).1
  have KK : Hid (∀ W, Below va.drew.heap.size va.drew W → Dl w W p F s) := fun W hb => (h.out.dl.later (Below.refl _ _).drew).later hb
  have KD : Hid (Kh va.drew) := hk.out.later (h.out.dl.below.drew)
  have HF : Hid (∀ W W', Below va.drew.heap.size va.drew W → Ds w W p F (wrb s fr (hd g)).2 W' → Ds w va p F (wrb s fr (hd g)).2 W') := fun W W' hb ⟨F', k1, k2, k3⟩ => by
    have b0 : Below va.heap.size va W := chain (Below.refl _ _).drew hb
    exact ⟨F', k1, (Nx.refl va F).trans k2 b0.size, (Bf.of b0).trans (Nx.refl _ _) k3⟩
  obtain ⟨y, hy⟩ : ∃ y, wrb s fr (hd g) = y := ⟨_, rfl⟩
  obtain ⟨x, hx⟩ : ∃ x, y.1 = x := ⟨_, rfl⟩
  rw [hy] at WR HF ⊢
  rw [hx] at WR ⊢
  obtain ⟨X, hX⟩ : ∃ X, st (hd g) = X := ⟨_, rfl⟩
  rw [hX] at HH WR
  clear hy hx hX h hk hl
  go_enter Tryz.func103, Tryz.ntmps103
  go_wp2_with fail
  go_region_held3 (fun w' => w'.cell? ⟨q, 0, none⟩ = some (.pointer (some ⟨p, 0, none⟩)) ∧ w'.cell? ⟨q, 1, none⟩ = some (.int .i64 (fr : Int)) ∧ w'.cell? ⟨q, 2, none⟩ = some (.int .i64 (mn : Int)) ∧ w'.cell? ⟨q, 3, none⟩ = some (.int .i64 (g : Int))) (first | exact ⟨c0, c1, c2, c3⟩ | assumption | exact keepE (by assumption) (by assumption) | exact keepEd NQ.out (by assumption) (by assumption)) (first | (go_at_call 132; refine Calls.mono (HH.out _ KD.out) ?_; rintro e w3 ⟨rfl, hb3⟩) | (go_at_call 106; refine Calls.mono (WR.out _ (KK.out _ (by assumption))) ?_; rintro e w4 ⟨rfl, hd4⟩))
  have FF : Hid (Ds w va p F y.2 w4) := HF.out w3 w4 hb3 hd4
  clear hd4 hb3 KK KD HF WR HH
  go_wp2
  go_ret
  exact ⟨rfl, FF.out⟩
theorem cls_len : ∀ (m : Nat) (s : St) (k : Nat) (d : Bool), (cls s k m d).2.l.length ≤ s.l.length + m
  | 0, s, k, d => by
    rw [cls]
    split
    · show (syS s).l.length ≤ _
      unfold syS
      split
      · omega
      · split
        · show s.l.length ≤ _
          omega
        · exact Nat.zero_le _
    · exact Nat.le_refl _
  | m + 1, s, k, d => by
    rw [cls]
    split
    · have := cls_len m s (k + 1) d
      omega
    · have h1 := wrS_len s (k : Int) (zr 64)
      by_cases h : wrE s (k : Int) (zr 64) = 0
      · rw [thn_ok h]
        have := cls_len m (wrS s (k : Int) (zr 64)) (k + 1) true
        exact Nat.le_trans this (by omega)
      · rw [thn_no h]
        exact Nat.le_trans h1 (by omega)
theorem cln_len (s : St) (k m : Nat) : (cln s k m).2.l.length ≤ s.l.length + m := by
  rw [cln]
  split
  · exact Nat.le_add_right _ _
  · exact cls_len m s k false
theorem pts_len : ∀ (l : List Bs) (s : St) (k tk : Nat) (a : Bs), (pts s k tk a l).2.l.length ≤ s.l.length + sns l
  | [], _, _, _, _ => Nat.le_refl _
  | t :: l, s, k, tk, a => by
    rw [pts, sns]
    have h1 := wrb_len s (k + tk) (rcd a t)
    rw [rcd_len, show 64 * sn t / 64 = sn t by omega] at h1
    by_cases h : (wrb s (k + tk) (rcd a t)).1 = 0
    · rw [thn_ok h]
      have := pts_len l (wrb s (k + tk) (rcd a t)).2 k (tk + sn t) (rmk a t)
      omega
    · rw [thn_no h]
      omega
theorem syS_len (s : St) : (syS s).l.length ≤ s.l.length := by
  unfold syS
  split
  · omega
  · split
    · exact Nat.le_refl _
    · exact Nat.zero_le _
end Go.Proofs.YtjpaodepnacimaaGreatDoor
