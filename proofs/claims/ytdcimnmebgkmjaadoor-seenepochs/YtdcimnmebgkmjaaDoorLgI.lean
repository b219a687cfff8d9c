/- The half in use. -/
import Derived.Test.YtdcimnmebgkmjaaDoorLgG
namespace Go.Proofs.YtdcimnmebgkmjaaDoor
open Go.RowKit Go.Proofs.Fd Go.Proofs.Dk Go.Proofs.Lg
set_option maxRecDepth 20000

/-- The generation of a half that was found, of none: 0; its cells, its texts. -/
def gO (s : St) (mn : Nat) : Option Nat → Nat
  | none => 0
  | some fr => gen (hb s fr mn)
def cO (s : St) (p mn : Nat) (v : Value) : Option Nat → List Value
  | none => hz0
  | some fr => hc p fr mn (gen (hb s fr mn)) v (fK s fr mn) (fM s fr mn) []
def tO (s : St) (mn : Nat) : Option Nat → List Bs
  | none => []
  | some fr => fT s fr mn
/-- The best of the first so many halves. -/
def us (s : St) (mn : Nat) : Nat → Option Nat
  | 0 => none
  | k + 1 => if gO s mn (us s mn k) < gen (hb s (k * mn) mn) then some (k * mn) else us s mn k
theorem cO_len (s : St) (p mn : Nat) (v : Value) (o : Option Nat) : (cO s p mn v o).length = 7 := by cases o <;> rfl
theorem cO_g (s : St) (p mn : Nat) (v : Value) (o : Option Nat) : (cO s p mn v o)[3]? = some (.int .i64 (gO s mn o : Int)) := by cases o <;> rfl
/-- What stands while the half in use is looked for: the answer's block c, the best one's b. -/
structure Us (va : World) (p : Nat) (s : St) (mn P c b : Nat) (o : Option Nat) (v : Value) (wr : World) : Prop where
  bc : Blk wr c hz0
  bb : Blk wr b (cO s p mn v o)
  pl : Blk wr P [.pointer (some ⟨p, 0, none⟩), .int .i64 0, .int .i64 (mn : Int), .pointer (some ⟨p, 0, none⟩), .int .i64 (mn : Int), .int .i64 (mn : Int)]
  row : OwnsS wr v (tO s mn o)
  bl : Below va.heap.size va wr
  nc : va.heap.size ≤ c
  nb : va.heap.size ≤ b
  cb : c ≠ b
  pv : P < va.heap.size
  vc : v.ownBlock ≠ some c
  vb : v.ownBlock ≠ some b
  nv : ∀ x, v.ownBlock = some x → va.heap.size ≤ x
section
variable {va : World} {p : Nat} {s : St} {mn P c b : Nat} {o : Option Nat} {v : Value} {wr : World}
theorem Us.later (h : Us va p s mn P c b o v wr) {w' : World} (hb : Below wr.heap.size wr w') : Us va p s mn P c b o v w' :=
  ⟨h.bc.later hb, h.bb.later hb, h.pl.later hb, ownsRow_same h.row (fun x e => hb.block x (h.row.lt x e).2), chain h.bl hb, h.nc, h.nb, h.cb, h.pv, h.vc, h.vb, h.nv⟩
/-- Another half is the best one. -/
theorem Us.better (h : Us va p s mn P c b o v wr) {o' : Option Nat} {v' : Value} (r : OwnsS wr v' (tO s mn o')) (hc' : v'.ownBlock ≠ some c) (hb' : v'.ownBlock ≠ some b) (hn : ∀ x, v'.ownBlock = some x → va.heap.size ≤ x) : Us va p s mn P c b o' v' (wr.setCells b 0 (cO s p mn v' o')) := by
  have hx : ∀ x, x ≠ b → (wr.setCells b 0 (cO s p mn v' o')).heap[x]? = wr.heap[x]? := fun x e => setCells_other wr b 0 _ x e
  have := h.pv
  have := h.nb
  exact ⟨h.bc.same (hx c h.cb), h.bb.put _ (by rw [cO_len, cO_len]), h.pl.same (hx P (by omega)), ownsRow_same r (fun x e => hx x (fun d => hb' (by rw [e, d]))), below_sets h.nb _ 0 h.bl, h.nc, h.nb, h.cb, h.pv, hc', hb', hn⟩
theorem Us.ret (h : Us va p s mn P c b o v wr) : Blk (wr.setCells c 0 (cO s p mn v o)) c (cO s p mn v o) ∧ Below va.heap.size va (wr.setCells c 0 (cO s p mn v o)) ∧ OwnsS (wr.setCells c 0 (cO s p mn v o)) v (tO s mn o) :=
  ⟨h.bc.put _ (by rw [cO_len]; rfl), below_sets h.nc _ 0 h.bl, ownsRow_same h.row (fun x e => setCells_other wr c 0 _ x (fun d => h.vc (by rw [e, d])))⟩
end
theorem Blk.ex {w : World} {b : Nat} {cs : List Value} (h : Blk w b cs) (j : Nat) (hj : j < cs.length) : ∃ x, w.cell? ⟨b, j, none⟩ = some x := ⟨_, h.c j _ (List.getElem?_eq_getElem hj)⟩
set_option maxHeartbeats 4000000 in
theorem linUse_down (w va : World) (p : Nat) (F : Nat → Prop) (s : St) (mn P : Nat) (h1 : 1 ≤ mn) (h2 : 2 * mn ≤ s.n) (hd : s.down = true) (h : Hid (Dl w va p F s)) (hp : Hid (Blk va P [.pointer (some ⟨p, 0, none⟩), .int .i64 0, .int .i64 (mn : Int), .pointer (some ⟨p, 0, none⟩), .int .i64 (mn : Int), .int .i64 (mn : Int)])) :
    Calls Tryd.prog 29 #[.slice (some ⟨P, 0, none⟩) 2 2] va fun e w' => e = .returned (.tuple #[.agg hz0.toArray, .int .i64 150]) ∧ Below va.heap.size va w' := by
  have I0 : Hid (Us va p s mn P va.heap.size (va.heap.size + 1) none (.slice none 0 0) ((va.alloc (.cells hz0.toArray 57)).alloc (.cells hz0.toArray 57))) :=
    ⟨(Blk.new va hz0 _ (by simp)).later (nb _ _), blk_two va _ hz0 _ (by simp), hp.out.later (chain (nb _ _) (nb _ _)), owns_nilS _, chain (nb _ _) (nb _ _), Nat.le_refl _, Nat.le_succ _, by omega, hp.out.lt, nofun, nofun, nofun⟩
  have gm : mn ≤ 512 := by have := h.out.at_.1.n2; omega
  have FD : Hid (∀ W, Below va.heap.size va W → Calls Tryd.prog 46 #[.agg #[.pointer (some ⟨p, 0, none⟩), .int .i64 0, .int .i64 (mn : Int)]] W fun e w' => e = .returned (.tuple #[.agg hz0.toArray, .int .i64 150]) ∧ Below W.heap.size W w') := fun W hb => lfind_down w W p F s 0 mn h1 (by omega) hd (h.out.later hb)
  clear h hp h1 h2 hd
  go_enter Tryd.func29, Tryd.ntmps29
  go_wp2
  go_loopw [11] (fun i wr => i = .int .i64 0 ∧ Hid (Us va p s mn P va.heap.size (va.heap.size + 1) none (.slice none 0 0) wr)) (fun _ _ => 0)
  case atStart => exact ⟨rfl, I0.out⟩
  case round =>
    obtain ⟨rfl, I⟩ := hrel
    clear I0
    have c0 := I.out.pl.c 0 _ rfl
    have c1 := I.out.pl.c 1 _ rfl
    have c2 := I.out.pl.c 2 _ rfl
    have I1 : Hid (Us va p s mn P va.heap.size (va.heap.size + 1) none (.slice none 0 0) (wr.alloc (.cells #[.pointer (some ⟨p, 0, none⟩), .int .i64 0, .int .i64 (mn : Int)] 55))) := I.out.later (nb _ _)
    clear I
    go_wp2_with fail
    refine Calls.mono (FD.out _ I1.out.bl) ?_
    rintro e w2 ⟨rfl, hb2⟩
    have I2 : Hid (Us va p s mn P va.heap.size (va.heap.size + 1) none (.slice none 0 0) (w2.alloc (.cells #[.pointer none, .int .i64 0, .int .i64 0, .int .i64 0, .slice none 0 0, .int .i64 0, .string ⟨#[]⟩] 57))) := (I1.out.later hb2).later (nb _ _)
    clear I1 hb2 c0 c1 c2 FD
    have z0 := I2.out.bc.c 0 _ rfl
    have z1 := I2.out.bc.c 1 _ rfl
    have z2 := I2.out.bc.c 2 _ rfl
    have z3 := I2.out.bc.c 3 _ rfl
    have z4 := I2.out.bc.c 4 _ rfl
    have z5 := I2.out.bc.c 5 _ rfl
    have z6 := I2.out.bc.c 6 _ rfl
    have zf := I2.out.bc.f
    have FI : Hid (Blk ((w2.alloc (.cells #[.pointer none, .int .i64 0, .int .i64 0, .int .i64 0, .slice none 0 0, .int .i64 0, .string ⟨#[]⟩] 57)).setCells va.heap.size 0 hz0) va.heap.size hz0 ∧ Below va.heap.size va ((w2.alloc (.cells #[.pointer none, .int .i64 0, .int .i64 0, .int .i64 0, .slice none 0 0, .int .i64 0, .string ⟨#[]⟩] 57)).setCells va.heap.size 0 hz0)) := ⟨I2.out.bc.put _ rfl, below_sets (Nat.le_refl _) _ 0 I2.out.bl⟩
    clear I2
    go_wp2
    refine bodyPost_ret (v := .tuple #[.agg hz0.toArray, .int .i64 150]) ?_ rfl ⟨rfl, FI.out.2⟩
    exact res_c2 Tryd.results29 _ _ va.heap.size _ _ (by kernel_rfl) (by kernel_rfl) (run_loadVar_mid _ va.heap.size 0 57 hz0 _ FI.out.1.r Tryd.underlying57 rfl (by kernel_rfl))
set_option maxHeartbeats 8000000 in
theorem linUse_up (w va : World) (p : Nat) (F : Nat → Prop) (s : St) (mn P : Nat) (h1 : 1 ≤ mn) (h2 : 2 * mn ≤ s.n) (hd : s.down = false) (hk : Hid (Kh w)) (h : Hid (Dl w va p F s)) (hp : Hid (Blk va P [.pointer (some ⟨p, 0, none⟩), .int .i64 0, .int .i64 (mn : Int), .pointer (some ⟨p, 0, none⟩), .int .i64 (mn : Int), .int .i64 (mn : Int)])) :
    Calls Tryd.prog 29 #[.slice (some ⟨P, 0, none⟩) 2 2] va fun e w' => ∃ v, e = .returned (.tuple #[.agg (cO s p mn v (us s mn 2)).toArray, .int .i64 0]) ∧ OwnsS w' v (tO s mn (us s mn 2)) ∧ (∀ x, v.ownBlock = some x → va.heap.size ≤ x) ∧ Below va.heap.size va w' := by
  have I0 : Hid (Us va p s mn P va.heap.size (va.heap.size + 1) none (.slice none 0 0) ((va.alloc (.cells hz0.toArray 57)).alloc (.cells hz0.toArray 57))) :=
    ⟨(Blk.new va hz0 _ (by simp)).later (nb _ _), blk_two va _ hz0 _ (by simp), hp.out.later (chain (nb _ _) (nb _ _)), owns_nilS _, chain (nb _ _) (nb _ _), Nat.le_refl _, Nat.le_succ _, by omega, hp.out.lt, nofun, nofun, nofun⟩
  have gm : mn ≤ 512 := by have := h.out.at_.1.n2; omega
  have FU : Hid (∀ W fr, Below va.heap.size va W → fr + mn ≤ s.n → Calls Tryd.prog 46 #[.agg #[.pointer (some ⟨p, 0, none⟩), .int .i64 (fr : Int), .int .i64 (mn : Int)]] W fun e w' => FdP W p s fr mn e w') := fun W fr hb hf => lfind_up w W p F s fr mn h1 hf hd hk (h.out.later hb)
  have H2 : Hid (2 * mn ≤ s.n) := h2
  clear h hp hk h1 h2 hd
  go_enter Tryd.func29, Tryd.ntmps29
  go_wp2
  go_loopw [11] (fun i wr => ∃ (k : Nat) (v : Value), k ≤ 2 ∧ i = .int .i64 (k : Int) ∧ Hid (Us va p s mn P va.heap.size (va.heap.size + 1) (us s mn k) v wr)) (fun i _ => 2 - (intOf i).toNat)
  case atStart => exact ⟨0, _, by decide, rfl, I0.out⟩
  case round =>
    obtain ⟨k, v, hk2, rfl, I⟩ := hrel
    clear I0
    by_cases hlt : k < 2
    · have HU : Hid (us s mn (k + 1) = if gO s mn (us s mn k) < gen (hb s (k * mn) mn) then some (k * mn) else us s mn k) := rfl
      obtain ⟨o, ho⟩ : ∃ o, us s mn k = o := ⟨_, rfl⟩
      rw [ho] at I HU
      clear ho
      obtain ⟨fr, hfr⟩ : ∃ fr, k * mn = fr := ⟨_, rfl⟩
      rw [hfr] at HU
      have CP : wr.cell? ⟨P, k * 3, none⟩ = some (.pointer (some ⟨p, 0, none⟩)) ∧ wr.cell? ⟨P, k * 3 + 1, none⟩ = some (.int .i64 (fr : Int)) ∧ wr.cell? ⟨P, k * 3 + 2, none⟩ = some (.int .i64 (mn : Int)) ∧ fr + mn ≤ s.n ∧ fr ≤ 512 := by
        have := H2.out
        rcases (by omega : k = 0 ∨ k = 1) with rfl | rfl
        · have e : fr = 0 := by omega
          subst e
          exact ⟨I.out.pl.c 0 _ rfl, I.out.pl.c 1 _ rfl, I.out.pl.c 2 _ rfl, by omega, by omega⟩
        · have e : fr = mn := by omega
          subst e
          exact ⟨I.out.pl.c 3 _ rfl, I.out.pl.c 4 _ rfl, I.out.pl.c 5 _ rfl, by omega, by omega⟩
      obtain ⟨c0, c1, c2, c3, c4⟩ := CP
      have I1 : Hid (Us va p s mn P va.heap.size (va.heap.size + 1) o v (wr.alloc (.cells #[.pointer (some ⟨p, 0, none⟩), .int .i64 (fr : Int), .int .i64 (mn : Int)] 55))) := I.out.later (nb _ _)
      have g1 : (k : Int) < 2 := by omega
      have F1 : Hid _ := FU.out _ fr I1.out.bl c3
      have I1N : Hid (va.heap.size + 2 ≤ wr.heap.size) := I.out.bb.lt
      clear I hfr
      go_wp2_with fail
      refine Calls.mono F1.out ?_
      rintro e w2 ⟨v2, rfl, r2, n2, b2⟩
      obtain ⟨xa, xn, xc, rfl⟩ := owns_sliceS r2
      have I2 : Hid (Us va p s mn P va.heap.size (va.heap.size + 1) o v w2 ∧ OwnsS w2 (.slice xa xn xc) (fT s fr mn) ∧ (∀ x, (Value.slice xa xn xc).ownBlock = some x → wr.heap.size ≤ x)) := ⟨I1.out.later b2, r2, fun x e => by have := n2 x e; simp at this; omega⟩
      have N2 : Hid (va.heap.size + 2 ≤ wr.heap.size) := I1N.out
      clear r2 n2 b2 I1 F1 c0 c1 c2
      have HO : Hid (cO s p mn (.slice xa xn xc) (some fr) = hc p fr mn (gen (hb s fr mn)) (.slice xa xn xc) (fK s fr mn) (fM s fr mn) [] ∧ tO s mn (some fr) = fT s fr mn) := ⟨rfl, rfl⟩
      obtain ⟨g, hg⟩ : ∃ g, gen (hb s fr mn) = g := ⟨_, rfl⟩
      obtain ⟨tk, htk⟩ : ∃ tk, fK s fr mn = tk := ⟨_, rfl⟩
      obtain ⟨m, hmm⟩ : ∃ m, fM s fr mn = m := ⟨_, rfl⟩
      rw [hg, htk, hmm] at HO
      rw [hg] at HU
      rw [hg, htk, hmm]
      clear hg htk hmm
      have e7 : hv p fr mn g (.slice xa xn xc) tk m = .agg #[.pointer (some ⟨p, 0, none⟩), .int .i64 (fr : Int), .int .i64 (mn : Int), .int .i64 (g : Int), .slice xa xn xc, .int .i64 (tk : Int), .string (st m)] := rfl
      rw [e7]
      clear e7
      have I3 : Hid (Us va p s mn P va.heap.size (va.heap.size + 1) o v (w2.alloc (.cells #[.pointer (some ⟨p, 0, none⟩), .int .i64 (fr : Int), .int .i64 (mn : Int), .int .i64 (g : Int), .slice xa xn xc, .int .i64 (tk : Int), .string (st m)] 57)) ∧ OwnsS (w2.alloc (.cells #[.pointer (some ⟨p, 0, none⟩), .int .i64 (fr : Int), .int .i64 (mn : Int), .int .i64 (g : Int), .slice xa xn xc, .int .i64 (tk : Int), .string (st m)] 57)) (.slice xa xn xc) (fT s fr mn)) := ⟨I2.out.1.later (nb _ _), ownsRow_same I2.out.2.1 (fun x e => (nb w2 (.cells #[.pointer (some ⟨p, 0, none⟩), .int .i64 (fr : Int), .int .i64 (mn : Int), .int .i64 (g : Int), .slice xa xn xc, .int .i64 (tk : Int), .string (st m)] 57)).block x (I2.out.2.1.lt x e).2)⟩
      have NN : Hid ((Value.slice xa xn xc).ownBlock ≠ some va.heap.size ∧ (Value.slice xa xn xc).ownBlock ≠ some (va.heap.size + 1) ∧ ∀ x, (Value.slice xa xn xc).ownBlock = some x → va.heap.size ≤ x) := by
        have h1 := N2.out
        exact ⟨fun e => by have := I2.out.2.2 _ e; omega, fun e => by have := I2.out.2.2 _ e; omega, fun x e => by have := I2.out.2.2 _ e; omega⟩
      have q3 := I3.out.1.bb.c 3 _ (cO_g s p mn v o)
      obtain ⟨y, hy⟩ : ∃ y, gO s mn o = y := ⟨_, rfl⟩
      rw [hy] at q3 HU
      clear hy I2
      by_cases hgt : y < g
      · have g2 : (y : Int) < (g : Int) := by omega
        rw [if_pos hgt] at HU
        obtain ⟨x0, q0⟩ := I3.out.1.bb.ex 0 (by rw [cO_len]; decide)
        obtain ⟨x1, q1⟩ := I3.out.1.bb.ex 1 (by rw [cO_len]; decide)
        obtain ⟨x2, q2⟩ := I3.out.1.bb.ex 2 (by rw [cO_len]; decide)
        obtain ⟨x4, q4⟩ := I3.out.1.bb.ex 4 (by rw [cO_len]; decide)
        obtain ⟨x5, q5⟩ := I3.out.1.bb.ex 5 (by rw [cO_len]; decide)
        obtain ⟨x6, q6⟩ := I3.out.1.bb.ex 6 (by rw [cO_len]; decide)
        have qf := I3.out.1.bb.f
        have FI : Hid (Us va p s mn P va.heap.size (va.heap.size + 1) (some fr) (.slice xa xn xc) ((w2.alloc (.cells #[.pointer (some ⟨p, 0, none⟩), .int .i64 (fr : Int), .int .i64 (mn : Int), .int .i64 (g : Int), .slice xa xn xc, .int .i64 (tk : Int), .string (st m)] 57)).setCells (va.heap.size + 1) 0 (hc p fr mn g (.slice xa xn xc) tk m []))) := by
          have := I3.out.1.better (o' := some fr) (v' := .slice xa xn xc) I3.out.2 NN.out.1 NN.out.2.1 NN.out.2.2
          rw [HO.out.1] at this
          exact this
        clear I3 HO NN
        go_wp2
        go_roundw
        case rel => exact ⟨k + 1, .slice xa xn xc, by omega, rfl, by rw [HU.out]; exact FI.out⟩
        case measure => simp [intOf]; omega
      · have g2 : ¬ (y : Int) < (g : Int) := by omega
        rw [if_neg hgt] at HU
        have FI : Hid (Us va p s mn P va.heap.size (va.heap.size + 1) o v (w2.alloc (.cells #[.pointer (some ⟨p, 0, none⟩), .int .i64 (fr : Int), .int .i64 (mn : Int), .int .i64 (g : Int), .slice xa xn xc, .int .i64 (tk : Int), .string (st m)] 57))) := I3.out.1
        clear I3 HO NN
        go_wp2
        go_roundw
        case rel => exact ⟨k + 1, v, by omega, rfl, by rw [HU.out]; exact FI.out⟩
        case measure => simp [intOf]; omega
    · obtain rfl : k = 2 := by omega
      obtain ⟨o, ho⟩ : ∃ o, us s mn 2 = o := ⟨_, rfl⟩
      rw [ho] at I
      have HO : Hid (us s mn 2 = o) := ho
      clear ho
      obtain ⟨xa, xn, xc, rfl⟩ := owns_sliceS I.out.row
      have z0 := I.out.bc.c 0 _ rfl
      have z1 := I.out.bc.c 1 _ rfl
      have z2 := I.out.bc.c 2 _ rfl
      have z3 := I.out.bc.c 3 _ rfl
      have z4 := I.out.bc.c 4 _ rfl
      have z5 := I.out.bc.c 5 _ rfl
      have z6 := I.out.bc.c 6 _ rfl
      have zf := I.out.bc.f
      have FI : Hid _ := I.out.ret
      have NV : Hid _ := I.out.nv
      cases o with
      | none =>
        have k0 := I.out.bb.c 0 _ rfl
        have k1 := I.out.bb.c 1 _ rfl
        have k2 := I.out.bb.c 2 _ rfl
        have k3 := I.out.bb.c 3 _ rfl
        have k4 := I.out.bb.c 4 _ rfl
        have k5 := I.out.bb.c 5 _ rfl
        have k6 := I.out.bb.c 6 _ rfl
        clear I
        go_wp2
        refine bodyPost_ret (v := .tuple #[.agg (cO s p mn (.slice xa xn xc) none).toArray, .int .i64 0]) ?_ rfl ⟨.slice xa xn xc, by rw [HO.out], by rw [HO.out]; exact FI.out.2.2, NV.out, FI.out.2.1⟩
        exact res_c2 Tryd.results29 _ _ va.heap.size _ _ (by kernel_rfl) (by kernel_rfl) (run_loadVar_mid _ va.heap.size 0 57 (cO s p mn (.slice xa xn xc) none) _ FI.out.1.r Tryd.underlying57 rfl (by kernel_rfl))
      | some fr =>
        have k0 := I.out.bb.c 0 _ rfl
        have k1 := I.out.bb.c 1 _ rfl
        have k2 := I.out.bb.c 2 _ rfl
        have k3 := I.out.bb.c 3 _ rfl
        have k4 := I.out.bb.c 4 _ rfl
        have k5 := I.out.bb.c 5 _ rfl
        have k6 := I.out.bb.c 6 _ rfl
        clear I
        go_wp2
        refine bodyPost_ret (v := .tuple #[.agg (cO s p mn (.slice xa xn xc) (some fr)).toArray, .int .i64 0]) ?_ rfl ⟨.slice xa xn xc, by rw [HO.out], by rw [HO.out]; exact FI.out.2.2, NV.out, FI.out.2.1⟩
        exact res_c2 Tryd.results29 _ _ va.heap.size _ _ (by kernel_rfl) (by kernel_rfl) (run_loadVar_mid _ va.heap.size 0 57 (cO s p mn (.slice xa xn xc) (some fr)) _ FI.out.1.r Tryd.underlying57 rfl (by kernel_rfl))
end Go.Proofs.YtdcimnmebgkmjaaDoor
