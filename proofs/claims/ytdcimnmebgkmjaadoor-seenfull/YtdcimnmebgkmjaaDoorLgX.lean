/- A half is begun, as a call. -/
import Derived.Test.YtdcimnmebgkmjaaDoorLgJ
namespace Go.Proofs.YtdcimnmebgkmjaaDoor
open Go.RowKit Go.Proofs.Fd Go.Proofs.Dk Go.Proofs.Lg
set_option maxRecDepth 20000

/-- What begin answers and leaves. -/
def BnP (w va : World) (p : Nat) (F : Nat → Prop) (fr mn g : Nat) (l : List Bs) (y : Int × St) (e : Ending) (w' : World) : Prop :=
  ∃ F', Dl w w' p F' y.2 ∧ Nx va F F' ∧ Bf F va w' ∧
    (y.1 = 0 ∧ (∃ v, e = .returned (.tuple #[hv p fr mn g v (tkn 1 l) (mks (hm g) l), .int .i64 0]) ∧ OwnsS w' v l ∧ ∀ x, v.ownBlock = some x → va.heap.size ≤ x ∧ ¬ F' x) ∨ y.1 ≠ 0 ∧ e = .returned (.tuple #[.agg hz0.toArray, .int .i64 y.1]))
theorem blk_at (w : World) (cs : List Value) (ty : TypeId) (hn : cs ≠ []) (k : Nat) (hk : w.heap.size = k) : Blk (w.alloc (.cells cs.toArray ty)) k cs := by
  subst hk
  exact Blk.new w cs ty hn
theorem size1 (w : World) (o : Obj) : (w.alloc o).heap.size = w.heap.size + 1 := by simp
theorem begin_at (w va : World) (p : Nat) (F : Nat → Prop) (s : St) (fr mn g : Nat) (a : Option Addr) (n c : Nat) (l : List Bs) (y : Int × St) (h : Dl w va p F s) (hx : TxAt va a l) (ha : Ap a l F) (hl : s.l.length + 2 * mn + 300 ≤ 1000000) (hy : y = thn (cln s fr mn) (k1 fr g l)) (t1 t2 t3 t4 : TypeId) :
    BgP w va p F fr mn g a n c l (va.heap.size + 1 + 1) (va.heap.size + 1 + 1 + 1) (va.heap.size + 1) s.n y 0 ((((va.alloc (.cells #[.pointer (some ⟨p, 0, none⟩), .int .i64 (fr : Int), .int .i64 (mn : Int)] t1)).alloc (.cells hz0.toArray t2)).alloc (.cells (hc p fr mn g (.slice none 0 0) 0 [] [.slice a n c]).toArray t3)).alloc (.cells (fsv (va.heap.size + 1 + 1) p fr mn).toArray t4)) := by
  obtain ⟨v1, e1⟩ : ∃ v1, va.alloc (.cells #[.pointer (some ⟨p, 0, none⟩), .int .i64 (fr : Int), .int .i64 (mn : Int)] t1) = v1 := ⟨_, rfl⟩
  have b1 : Below va.heap.size va v1 := by rw [← e1]; exact nb _ _
  have s1 : v1.heap.size = va.heap.size + 1 := by rw [← e1]; exact size1 _ _
  rw [e1]
  obtain ⟨v2, e2⟩ : ∃ v2, v1.alloc (.cells hz0.toArray t2) = v2 := ⟨_, rfl⟩
  have b2 : Below v1.heap.size v1 v2 := by rw [← e2]; exact nb _ _
  have s2 : v2.heap.size = va.heap.size + 1 + 1 := by rw [← e2, size1, s1]
  have r2 : Blk v2 (va.heap.size + 1) hz0 := by rw [← e2]; exact blk_at v1 hz0 t2 (by simp) _ s1
  rw [e2]
  obtain ⟨v3, e3⟩ : ∃ v3, v2.alloc (.cells (hc p fr mn g (.slice none 0 0) 0 [] [.slice a n c]).toArray t3) = v3 := ⟨_, rfl⟩
  have b3 : Below v2.heap.size v2 v3 := by rw [← e3]; exact nb _ _
  have s3 : v3.heap.size = va.heap.size + 1 + 1 + 1 := by rw [← e3, size1, s2]
  have r3 : Blk v3 (va.heap.size + 1 + 1) (hc p fr mn g (.slice none 0 0) 0 [] [.slice a n c]) := by rw [← e3]; exact blk_at v2 _ t3 (by simp) _ s2
  rw [e3]
  obtain ⟨v4, e4⟩ : ∃ v4, v3.alloc (.cells (fsv (va.heap.size + 1 + 1) p fr mn).toArray t4) = v4 := ⟨_, rfl⟩
  have b4 : Below v3.heap.size v3 v4 := by rw [← e4]; exact nb _ _
  have r4 : Blk v4 (va.heap.size + 1 + 1 + 1) (fsv (va.heap.size + 1 + 1) p fr mn) := by rw [← e4]; exact blk_at v3 _ t4 (by simp [fsv]) _ s3
  rw [e4]
  clear e1 e2 e3 e4
  have bb : Below va.heap.size va v4 := chain (chain (chain b1 b2) b3) b4
  have lt : ∀ x, F x → x < va.heap.size := fun x e => h.at_.lt e
  have hh : ∀ x, HFt (va.heap.size + 1 + 1) (.slice none 0 0) x → x = va.heap.size + 1 + 1 := fun x e => by
    rcases e with e | e
    · exact e
    · cases e
  refine ⟨F, s, .slice none 0 0, [], 0, [], ⟨⟨h.later bb, ⟨r3.later b4, owns_nilS _, nofun⟩, fun x e => ?_⟩, Nx.refl _ _, Bf.of bb, r4, (r2.later b3).later b4, hx.later bb, fun x e h0 d => ?_, by omega, by omega, by omega, by omega, by omega, fun e => ?_, fun e => ?_, nofun, nofun, nofun⟩, fun c => absurd c (by decide), rfl, rfl, rfl, hl, hy⟩
  · have := hh x e
    subst this
    exact ⟨fun d => by have := lt _ d; omega, by have := h.below.size; omega⟩
  · rcases d with d | d
    · exact ha x e h0 d
    · have h3 := hh _ d
      have := hx.lt x e h0
      omega
  · have := lt _ e
    omega
  · have := lt _ e
    omega
set_option maxHeartbeats 4000000 in
theorem lbegin_any (w va : World) (p : Nat) (F : Nat → Prop) (s : St) (fr mn g : Nat) (a : Option Addr) (n c : Nat) (l : List Bs) (h1 : 1 ≤ mn) (h2 : fr + mn ≤ s.n) (hn : l.length = n) (ht : ∀ t ∈ l, t.length ≤ 2000) (hs : tkn 1 l ≤ mn) (hl : s.l.length + 2 * mn + 300 ≤ 1000000) (hk : Hid (Kh w)) (h : Hid (Dl w va p F s)) (hx : Hid (TxAt va a l)) (ha : Hid (Ap a l F)) :
    Calls Tryd.prog 31 #[plc p fr mn, .int .i64 (g : Int), .slice a n c] va fun e w' => BnP w va p F fr mn g l (bgn s fr mn g l) e w' := by
  have hB := h.out.at_.1.n2
  have BS := begin_steps w va p F fr mn g a n c l (va.heap.size + 1 + 1) (va.heap.size + 1 + 1 + 1) (va.heap.size + 1) s.n (bgn s fr mn g l) h1 h2 hB hn ht hs hk.out
  have HL : Hid (s.l.length + 2 * mn + 300 ≤ 1000000) := hl
  have H9 : Hid (w.heap.size ≤ va.heap.size) := h.out.below.size
  obtain ⟨y, hy⟩ : ∃ y, bgn s fr mn g l = y := ⟨_, rfl⟩
  have HY : Hid (y = thn (cln s fr mn) (k1 fr g l)) := hy.symm.trans (bgn_k1 s fr mn g l)
  rw [hy] at BS ⊢
  have BS' : Hid _ := BS
  clear BS hy hn ht hs h1 h2 hB hl
  unfold plc
  go_enter Tryd.func31, Tryd.ntmps31
  go_wp2_with fail
  refine Calls.mono (BS'.out _ (begin_at w va p F s fr mn g a n c l y h.out hx.out ha.out HL.out HY.out _ _ _ _)) ?_
  rintro e w1 ⟨x, rfl, hst⟩
  by_cases h0 : x = 0
  · subst h0
    have J : Hid (BgP w va p F fr mn g a n c l (va.heap.size + 1 + 1) (va.heap.size + 1 + 1 + 1) (va.heap.size + 1) s.n y 5 w1) := by
      rcases hst with ⟨-, k⟩ | ⟨k, -⟩
      · exact k
      · exact absurd rfl k
    clear hst BS' h hx ha HY HL
    obtain ⟨F', s', v', ts', tk', m', hq, hf, hy⟩ := J.out
    obtain ⟨e1, e2, e3⟩ := hf (by decide)
    rw [e1, e2, e3] at hq
    have HQ : Hid (Bq w va p F fr mn g a n c l _ _ _ w1 F' s' v' l _ _) := hq
    have HY : Hid (y = (0, s')) := hy
    clear hq hf hy J e1 e2 e3
    obtain ⟨xa, xn, xc, rfl⟩ := owns_sliceS HQ.out.hd.hf.row
    obtain ⟨tk, htk⟩ : ∃ tk, tkn 1 l = tk := ⟨_, rfl⟩
    obtain ⟨m, hmm⟩ : ∃ m, mks (hm g) l = m := ⟨_, rfl⟩
    have HTM : Hid (tkn 1 l = tk ∧ mks (hm g) l = m) := ⟨htk, hmm⟩
    rw [htk, hmm] at HQ
    clear htk hmm
    have k0 := HQ.out.hd.hf.bk.c 0 _ rfl
    have k1 := HQ.out.hd.hf.bk.c 1 _ rfl
    have k2 := HQ.out.hd.hf.bk.c 2 _ rfl
    have k3 := HQ.out.hd.hf.bk.c 3 _ rfl
    have k4 := HQ.out.hd.hf.bk.c 4 _ rfl
    have k5 := HQ.out.hd.hf.bk.c 5 _ rfl
    have k6 := HQ.out.hd.hf.bk.c 6 _ rfl
    have z0 := HQ.out.br.c 0 _ rfl
    have z1 := HQ.out.br.c 1 _ rfl
    have z2 := HQ.out.br.c 2 _ rfl
    have z3 := HQ.out.br.c 3 _ rfl
    have z4 := HQ.out.br.c 4 _ rfl
    have z5 := HQ.out.br.c 5 _ rfl
    have z6 := HQ.out.br.c 6 _ rfl
    have zf := HQ.out.br.f
    have hne := HQ.out.qR
    have FI : Hid (Blk (w1.setCells (va.heap.size + 1) 0 (hc p fr mn g (.slice xa xn xc) tk m [])) (va.heap.size + 1) (hc p fr mn g (.slice xa xn xc) tk m []) ∧ BnP w va p F fr mn g l y (.returned (.tuple #[hv p fr mn g (.slice xa xn xc) tk m, .int .i64 0])) (w1.setCells (va.heap.size + 1) 0 (hc p fr mn g (.slice xa xn xc) tk m []))) := by
      have ho : ∀ x, x ≠ va.heap.size + 1 → (w1.setCells (va.heap.size + 1) 0 (hc p fr mn g (.slice xa xn xc) tk m [])).heap[x]? = w1.heap[x]? := fun x e => setCells_other w1 _ 0 _ x e
      have hbf : Bf (fun x => x = va.heap.size + 1) w1 (w1.setCells (va.heap.size + 1) 0 (hc p fr mn g (.slice xa xn xc) tk m [])) := Bf.sets (fun x => x = va.heap.size + 1) _ rfl _ _ _
      refine ⟨HQ.out.br.put _ rfl, F', ?_, HQ.out.nx, ?_, .inl ⟨by rw [HY.out], .slice xa xn xc, by rw [HTM.out.1, HTM.out.2], ?_, fun x e => ⟨HQ.out.nv x e, (HQ.out.hd.ap x (.inr e)).1⟩⟩⟩
      · rw [HY.out]
        exact ⟨HQ.out.hd.dl.at_.other hbf (fun x e d => HQ.out.fR (by rw [← d]; exact e)), HQ.out.hd.dl.new, below_sets (by have := HQ.out.bf.size; have := HQ.out.hd.dl.below.size; have := HQ.out.nR; have h9 := H9.out; omega) _ 0 HQ.out.hd.dl.below⟩
      · exact HQ.out.bf.trans (fun x e => .inr (by rw [e]; exact Nat.le_succ _)) hbf
      · exact ownsRow_same HQ.out.hd.hf.row (fun x e => ho x (fun d => HQ.out.vR (by rw [e, d])))
    clear HQ HY HTM
    go_wp2
    refine bodyPost_ret (v := .tuple #[hv p fr mn g (.slice xa xn xc) tk m, .int .i64 0]) ?_ rfl FI.out.2
    exact res_c2 Tryd.results31 _ _ (va.heap.size + 1) _ _ (by kernel_rfl) (by kernel_rfl) (run_loadVar_mid _ (va.heap.size + 1) 0 57 (hc p fr mn g (.slice xa xn xc) tk m []) _ FI.out.1.r Tryd.underlying57 rfl (by kernel_rfl))
  · have J : Hid (BgE w va p F (va.heap.size + 1) y x w1) := by
      rcases hst with ⟨k, -⟩ | ⟨-, k⟩
      · exact absurd k h0
      · exact k
    clear hst BS' h hx ha HY HL
    obtain ⟨F', hr0⟩ : ∃ F', Dl w w1 p F' y.2 ∧ Nx va F F' ∧ Bf F va w1 ∧ Blk w1 (va.heap.size + 1) hz0 ∧ ¬ F' (va.heap.size + 1) := J.out.2
    have hr : Dl w w1 p F' y.2 ∧ Nx va F F' ∧ Bf F va w1 ∧ Blk w1 (va.heap.size + 1) hz0 := ⟨hr0.1, hr0.2.1, hr0.2.2.1, hr0.2.2.2.1⟩
    have FR : Hid (¬ F' (va.heap.size + 1)) := hr0.2.2.2.2
    clear hr0
    have z0 := hr.2.2.2.c 0 _ rfl
    have z1 := hr.2.2.2.c 1 _ rfl
    have z2 := hr.2.2.2.c 2 _ rfl
    have z3 := hr.2.2.2.c 3 _ rfl
    have z4 := hr.2.2.2.c 4 _ rfl
    have z5 := hr.2.2.2.c 5 _ rfl
    have z6 := hr.2.2.2.c 6 _ rfl
    have zf := hr.2.2.2.f
    have FI : Hid (Blk (w1.setCells (va.heap.size + 1) 0 hz0) (va.heap.size + 1) hz0 ∧ BnP w va p F fr mn g l y (.returned (.tuple #[.agg hz0.toArray, .int .i64 x])) (w1.setCells (va.heap.size + 1) 0 hz0)) := by
      have hbf : Bf (fun x => x = va.heap.size + 1) w1 (w1.setCells (va.heap.size + 1) 0 hz0) := Bf.sets (fun x => x = va.heap.size + 1) _ rfl _ _ _
      have hR : ¬ F' (va.heap.size + 1) := FR.out
      refine ⟨hr.2.2.2.put _ rfl, F', ?_, hr.2.1, ?_, .inr ⟨by rw [J.out.1]; exact h0, by rw [J.out.1]⟩⟩
      · exact ⟨hr.1.at_.other hbf (fun x e d => hR (by rw [← d]; exact e)), hr.1.new, below_sets (by have h9 := H9.out; omega) _ 0 hr.1.below⟩
      · exact hr.2.2.1.trans (fun x e => .inr (by rw [e]; exact Nat.le_succ _)) hbf
    clear hr J
    go_wp2
    refine bodyPost_ret (v := .tuple #[.agg hz0.toArray, .int .i64 x]) ?_ rfl FI.out.2
    exact res_c2 Tryd.results31 _ _ (va.heap.size + 1) _ _ (by kernel_rfl) (by kernel_rfl) (run_loadVar_mid _ (va.heap.size + 1) 0 57 hz0 _ FI.out.1.r Tryd.underlying57 rfl (by kernel_rfl))
end Go.Proofs.YtdcimnmebgkmjaaDoor
