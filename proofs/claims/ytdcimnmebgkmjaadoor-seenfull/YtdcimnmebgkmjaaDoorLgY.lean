/- A log is opened. -/
import Derived.Test.YtdcimnmebgkmjaaDoorLgW
namespace Go.Proofs.YtdcimnmebgkmjaaDoor
open Go.RowKit Go.Proofs.Fd Go.Proofs.Dk Go.Proofs.Lg
set_option maxRecDepth 20000

theorem us_use (s : St) : (us s (s.n / 2) 2 = none ∧ (use s).2 = 0) ∨ (us s (s.n / 2) 2 = some ((use s).1 * (s.n / 2)) ∧ (use s).2 ≠ 0 ∧ gen (hb s ((use s).1 * (s.n / 2)) (s.n / 2)) = (use s).2 ∧ (use s).1 ≤ 1) := by
  obtain ⟨H, hH⟩ : ∃ H, s.n / 2 = H := ⟨_, rfl⟩
  rw [hH]
  have e1 : us s H 1 = if 0 < gen (hb s 0 H) then some 0 else none := by
    show (if gO s H none < gen (hb s (0 * H) H) then some (0 * H) else none) = _
    rw [Nat.zero_mul]
    rfl
  have e2 : us s H 2 = if gO s H (us s H 1) < gen (hb s H H) then some H else us s H 1 := by
    show (if gO s H (us s H 1) < gen (hb s (1 * H) H) then some (1 * H) else us s H 1) = _
    rw [Nat.one_mul]
  have e3 : use s = if gen (hb s 0 H) < gen (hb s H H) then (1, gen (hb s H H)) else (0, gen (hb s 0 H)) := by
    unfold use
    rw [hH]
  rw [e2, e1, e3]
  by_cases h0 : 0 < gen (hb s 0 H)
  · rw [if_pos h0]
    by_cases h1 : gen (hb s 0 H) < gen (hb s H H)
    · rw [if_pos h1]
      exact .inr ⟨by rw [Nat.one_mul]; exact if_pos (show gO s H (some 0) < _ from h1), by show gen (hb s H H) ≠ 0; omega, by show gen (hb s (1 * H) H) = _; rw [Nat.one_mul], Nat.le_refl _⟩
    · rw [if_neg h1]
      exact .inr ⟨by rw [Nat.zero_mul]; exact if_neg (show ¬ gO s H (some 0) < _ from h1), by show gen (hb s 0 H) ≠ 0; omega, by show gen (hb s (0 * H) H) = _; rw [Nat.zero_mul], Nat.zero_le _⟩
  · rw [if_neg h0]
    by_cases h1 : 0 < gen (hb s H H)
    · rw [if_pos (show gen (hb s 0 H) < gen (hb s H H) by omega)]
      exact .inr ⟨by rw [Nat.one_mul]; exact if_pos (show gO s H none < _ from h1), by show gen (hb s H H) ≠ 0; omega, by show gen (hb s (1 * H) H) = _; rw [Nat.one_mul], Nat.le_refl _⟩
    · rw [if_neg (show ¬ gen (hb s 0 H) < gen (hb s H H) by omega)]
      exact .inl ⟨if_neg (show ¬ gO s H none < _ from h1), by show gen (hb s 0 H) = 0; omega⟩
/-- What Open answers and leaves. -/
def OpP (w va : World) (p : Nat) (F : Nat → Prop) (mn : Nat) (y : Int × St) (x : Lo) (e : Ending) (w' : World) : Prop :=
  ∃ F', Dl w w' p F' y.2 ∧ Nx va F F' ∧ Bf F va w' ∧
    (y.1 = 0 ∧ (∃ q v, e = .returned (.tuple #[.pointer (some ⟨q, 0, none⟩), .int .i64 0]) ∧ HD w w' p F' y.2 q (x.h * mn) mn x.g v x.ts x.tk x.mr [] ∧ ∀ z, HFt q v z → va.heap.size ≤ z) ∨ y.1 ≠ 0 ∧ e = .returned (.tuple #[.pointer none, .int .i64 y.1]))
theorem lopen_small (w va : World) (p : Nat) (F : Nat → Prop) (s : St) (hn : s.n / 2 < 2) (h : Hid (Dl w va p F s)) :
    Calls Tryd.prog 9 #[.pointer (some ⟨p, 0, none⟩)] va fun e w' => e = .returned (.tuple #[.pointer none, .int .i64 4]) ∧ w' = va := by
  have SZ : Hid _ := size_any p F s va h.out.at_
  have hn2 := h.out.at_.1.n2
  obtain ⟨n, hnn⟩ : ∃ n, s.n = n := ⟨_, rfl⟩
  rw [hnn] at SZ hn hn2
  have y1 : (n : Int) / 2 = ((n / 2 : Nat) : Int) := by omega
  obtain ⟨mn, hmn⟩ : ∃ mn, n / 2 = mn := ⟨_, rfl⟩
  rw [hmn] at y1 hn
  have y2 : IntKind.i64.wrap (mn : Int) = (mn : Int) := by rw [IntKind.wrap_i64]; omega
  have y3 : (mn : Int) < 2 := by omega
  clear h hnn
  go_enter Tryd.func9, Tryd.ntmps9
  go_wp2_with fail
  refine Calls.mono SZ.out ?_
  rintro e w1 ⟨rfl, rfl⟩
  go_wp2
  go_ret2
  exact ⟨rfl, rfl⟩
theorem lopen_nil (va : World) : Calls Tryd.prog 9 #[.pointer none] va fun e w' => e = .returned (.tuple #[.pointer none, .int .i64 5]) ∧ w' = va := by
  go_enter Tryd.func9, Tryd.ntmps9
  go_wp2
  go_ret2
  exact ⟨rfl, rfl⟩
set_option maxHeartbeats 4000000 in
theorem lopen_down (w va : World) (p : Nat) (F : Nat → Prop) (s : St) (hn : 2 ≤ s.n / 2) (hd : s.down = true) (h : Hid (Dl w va p F s)) :
    Calls Tryd.prog 9 #[.pointer (some ⟨p, 0, none⟩)] va fun e w' => e = .returned (.tuple #[.pointer none, .int .i64 150]) ∧ Below va.heap.size va w' := by
  have SZ : Hid _ := size_any p F s va h.out.at_
  have hn2 := h.out.at_.1.n2
  have HN : Hid (2 * (s.n / 2) ≤ s.n) := (show 2 * (s.n / 2) ≤ s.n by omega)
  obtain ⟨mn, hmn⟩ : ∃ mn, s.n / 2 = mn := ⟨_, rfl⟩
  rw [hmn] at HN hn
  have IU : Hid (∀ V P, Below va.heap.size va V → Blk V P (pl6 p mn) → Calls Tryd.prog 29 #[.slice (some ⟨P, 0, none⟩) 2 2] V fun e w' => ∃ xa xn xc, e = .returned (.tuple #[.agg #[.pointer none, .int .i64 0, .int .i64 0, .int .i64 0, .slice xa xn xc, .int .i64 0, .string ⟨#[]⟩], .int .i64 150]) ∧ OwnsS w' (.slice xa xn xc) [] ∧ (∀ y, (Value.slice xa xn xc).ownBlock = some y → V.heap.size ≤ y) ∧ Below V.heap.size V w') := fun V P hb bk =>
    (linUse_down w V p F s mn P (by omega) HN.out hd (h.out.later hb) bk).mono fun _ _ ⟨he, hb⟩ => ⟨none, 0, 0, he, owns_nilS _, nofun, hb⟩
  have OT : Hid (∀ w, Calls Tryd.prog 30 #[.agg #[.pointer (some ⟨p, 0, none⟩), .int .i64 0, .int .i64 (mn : Int)]] w fun e w' => e = .returned (.agg #[.pointer (some ⟨p, 0, none⟩), .int .i64 (mn : Int), .int .i64 (mn : Int)]) ∧ Below w.heap.size w w') := fun w => lother_any w p 0 mn (Nat.zero_le _) (by omega)
  have HW : Hid (Below va.heap.size va (va.alloc (.cells #[.pointer (some ⟨p, 0, none⟩), .int .i64 0, .int .i64 (mn : Int)] 55)) ∧ Blk (va.alloc (.cells #[.pointer (some ⟨p, 0, none⟩), .int .i64 0, .int .i64 (mn : Int)] 55)) va.heap.size [.pointer (some ⟨p, 0, none⟩), .int .i64 0, .int .i64 (mn : Int)] ∧ va.heap.size ≤ va.heap.size) := ⟨nb _ _, Blk.new va _ _ (by simp), Nat.le_refl _⟩
  obtain ⟨n, hnn⟩ : ∃ n, s.n = n := ⟨_, rfl⟩
  rw [hnn] at SZ hmn hn2
  have y1 : (n : Int) / 2 = (mn : Int) := by omega
  have y2 : IntKind.i64.wrap (mn : Int) = (mn : Int) := by rw [IntKind.wrap_i64]; omega
  have y3 : ¬ (mn : Int) < 2 := by omega
  clear h hnn hmn hd hn HN
  go_enter Tryd.func9, Tryd.ntmps9
  go_wp2_with fail
  refine Calls.mono SZ.out ?_
  rintro e w1 ⟨rfl, rfl⟩
  go_upto_region 7 with fail
  refine open_region p mn none 0 0 0 0 ⟨#[]⟩ [] 150 w1 _ w1.heap.size HW OT IU _ _ _ _ _ _ _ _ _ _ _ ?_
  intro H xa xn xc wx u18 u19 u20 u21 u22 u23 u24 u25 I
  have FF : Hid (Below w1.heap.size w1 wx) := I.bl
  clear I IU OT HW SZ
  go_wp2
  go_ret2
  exact ⟨rfl, FF.out⟩
/-- A new log's block. -/
theorem box_log {w va wx : World} {p : Nat} {F : Nat → Prop} {s : St} {fr mn g : Nat} {v : Value} {ts : List Bs} {tk : Nat} {m : Bs} (ty : TypeId) (hd : Dl w wx p F s) (r : OwnsS wx v ts) (hv : ∀ z, v.ownBlock = some z → va.heap.size ≤ z ∧ ¬ F z) (h1 : w.heap.size ≤ va.heap.size) (h2 : va.heap.size ≤ wx.heap.size) :
    HD w (wx.alloc (.cells (hc p fr mn g v tk m []).toArray ty)) p F s wx.heap.size fr mn g v ts tk m [] ∧ ∀ z, HFt wx.heap.size v z → va.heap.size ≤ z := by
  refine ⟨⟨hd.later (nb _ _), ⟨Blk.new wx _ _ (by simp), ownsRow_same r (fun x e => (nb wx _).block x (r.lt x e).2), fun e => Nat.lt_irrefl _ (r.lt _ e).2⟩, fun z e => ?_⟩, fun z e => ?_⟩
  · rcases e with e | e
    · rw [e]
      exact ⟨fun c => Nat.lt_irrefl _ (hd.at_.lt c), by omega⟩
    · have := hv z e
      exact ⟨this.2, by omega⟩
  · rcases e with e | e
    · rw [e]
      exact h2
    · exact (hv z e).1
theorem size_sets (b : Nat) : ∀ (vs : List Value) (o : Nat) (w : World), (w.setCells b o vs).heap.size = w.heap.size
  | [], _, _ => rfl
  | v :: vs, o, w => by rw [World.setCells, size_sets b vs]; simp
/-- A block of the call's own is stored into, beside a disk. -/
theorem Dl.sets {w wr : World} {p : Nat} {F : Nat → Prop} {s : St} (h : Dl w wr p F s) {H : Nat} (hF : ¬ F H) (hw : w.heap.size ≤ H) (vs : List Value) : Dl w (wr.setCells H 0 vs) p F s :=
  ⟨h.at_.other (Bf.sets (fun x => x = H) H rfl vs 0 wr) (fun x e d => hF (by rw [← d]; exact e)), h.new, below_sets hw _ 0 h.below⟩
set_option maxHeartbeats 4000000 in
theorem lopen_new (w va : World) (p : Nat) (F : Nat → Prop) (s : St) (hn : 2 ≤ s.n / 2) (hd : s.down = false) (hu : (use s).2 = 0) (hl : s.l.length + 2000 ≤ 1000000) (hk : Hid (Kh w)) (h : Hid (Dl w va p F s)) :
    Calls Tryd.prog 9 #[.pointer (some ⟨p, 0, none⟩)] va fun e w' => OpP w va p F (s.n / 2) (bgn s 0 (s.n / 2) 1 []) ⟨0, 1, []⟩ e w' := by
  have SZ : Hid _ := size_any p F s va h.out.at_
  have hn2 := h.out.at_.1.n2
  have HN : Hid (2 * (s.n / 2) ≤ s.n) := (show 2 * (s.n / 2) ≤ s.n by omega)
  have HU : us s (s.n / 2) 2 = none := by
    rcases us_use s with ⟨e, -⟩ | ⟨-, e, -⟩
    · exact e
    · exact absurd hu e
  obtain ⟨mn, hmn⟩ : ∃ mn, s.n / 2 = mn := ⟨_, rfl⟩
  rw [hmn] at HN hn HU ⊢
  have IU : Hid (∀ V P, Below va.heap.size va V → Blk V P (pl6 p mn) → Calls Tryd.prog 29 #[.slice (some ⟨P, 0, none⟩) 2 2] V fun e w' => ∃ xa xn xc, e = .returned (.tuple #[.agg #[.pointer none, .int .i64 0, .int .i64 0, .int .i64 0, .slice xa xn xc, .int .i64 0, .string ⟨#[]⟩], .int .i64 0]) ∧ OwnsS w' (.slice xa xn xc) [] ∧ (∀ y, (Value.slice xa xn xc).ownBlock = some y → V.heap.size ≤ y) ∧ Below V.heap.size V w') := fun V P hb bk =>
    (linUse_up w V p F s mn P (by omega) HN.out hd hk (h.out.later hb) bk).mono fun _ _ ⟨v, he, _, _, hb⟩ => ⟨none, 0, 0, by rw [he, HU]; rfl, owns_nilS _, nofun, hb⟩
  have OT : Hid (∀ w, Calls Tryd.prog 30 #[.agg #[.pointer (some ⟨p, 0, none⟩), .int .i64 0, .int .i64 (mn : Int)]] w fun e w' => e = .returned (.agg #[.pointer (some ⟨p, 0, none⟩), .int .i64 (mn : Int), .int .i64 (mn : Int)]) ∧ Below w.heap.size w w') := fun w => lother_any w p 0 mn (Nat.zero_le _) (by omega)
  have HW : Hid (Below va.heap.size va (va.alloc (.cells #[.pointer (some ⟨p, 0, none⟩), .int .i64 0, .int .i64 (mn : Int)] 55)) ∧ Blk (va.alloc (.cells #[.pointer (some ⟨p, 0, none⟩), .int .i64 0, .int .i64 (mn : Int)] 55)) va.heap.size [.pointer (some ⟨p, 0, none⟩), .int .i64 0, .int .i64 (mn : Int)] ∧ va.heap.size ≤ va.heap.size) := ⟨nb _ _, Blk.new va _ _ (by simp), Nat.le_refl _⟩
  have BG : Hid (∀ V, Below va.heap.size va V → Calls Tryd.prog 31 #[.agg #[.pointer (some ⟨p, 0, none⟩), .int .i64 0, .int .i64 (mn : Int)], .int .i64 1, .slice none 0 0] V fun e w' => BnP w V p F 0 mn 1 [] (bgn s 0 mn 1 []) e w') := fun V hb =>
    lbegin_any w V p F s 0 mn 1 none 0 0 [] (by omega) (by omega) rfl nofun (by show 1 ≤ mn; omega) (by omega) hk (h.out.later hb) (TxAt.nil _ _) (fun x e => by cases e)
  have HWV : Hid (w.heap.size ≤ va.heap.size) := h.out.below.size
  have NFF : Hid (∀ x, F x → x < va.heap.size) := fun x c => h.out.at_.lt c
  obtain ⟨y, hy⟩ : ∃ y, bgn s 0 mn 1 [] = y := ⟨_, rfl⟩
  rw [hy] at BG ⊢
  obtain ⟨n, hnn⟩ : ∃ n, s.n = n := ⟨_, rfl⟩
  rw [hnn] at SZ hmn hn2
  have y1 : (n : Int) / 2 = (mn : Int) := by omega
  have y2 : IntKind.i64.wrap (mn : Int) = (mn : Int) := by rw [IntKind.wrap_i64]; omega
  have y3 : ¬ (mn : Int) < 2 := by omega
  clear h hnn hmn hd hn HN HU hy hu hl hk
  go_enter Tryd.func9, Tryd.ntmps9
  go_wp2_with fail
  refine Calls.mono SZ.out ?_
  rintro e w1 ⟨rfl, rfl⟩
  go_upto_region 7 with fail
  refine open_region p mn none 0 0 0 0 ⟨#[]⟩ [] 0 w1 _ w1.heap.size HW OT IU _ _ _ _ _ _ _ _ _ _ _ ?_
  intro H xa xn xc wx u18 u19 u20 u21 u22 u23 u24 u25 I
  have J : Hid _ := I
  have k3 := I.bk.c 3 _ rfl
  have b0 := I.b1.c 0 _ rfl
  have b1 := I.b1.c 1 _ rfl
  have b2 := I.b1.c 2 _ rfl
  have BB : Hid _ := BG.out wx I.bl
  clear I IU OT HW SZ BG
  go_wp2_with fail
  refine Calls.mono BB.out ?_
  rintro e w2 ⟨F2, d1, d2, d3, hres⟩
  have HB : ∀ x, x < wx.heap.size → ¬ F x → w2.heap[x]? = wx.heap[x]? := fun x hx hF => d3.block x hx hF
  have nF : ∀ x, w1.heap.size ≤ x → x < wx.heap.size → ¬ F x := fun x hx _ c => by
    have := J.out.bl.size
    exact absurd (NFF.out x c) (by omega)
  have bk2 : Blk w2 H (hq7 none 0 0 0 xa xn xc 0 ⟨#[]⟩) := J.out.bk.same (HB H J.out.bk.lt (nF H J.out.nH J.out.bk.lt))
  have F2H : ¬ F2 H := fun c => by
    rcases d2 H c with e | e
    · exact nF H J.out.nH J.out.bk.lt e
    · have := J.out.bk.lt
      omega
  have W1 : w1.heap.size ≤ w2.heap.size := Nat.le_trans J.out.bl.size d3.size
  have BF : Hid (∀ vs, Bf F w1 (w2.setCells H 0 vs)) := fun vs => ((Bf.of (F := F) J.out.bl).trans (Nx.refl _ _) d3).trans (fun x e => .inr (by rw [e]; exact J.out.nH)) (Bf.sets (fun x => x = H) H rfl vs 0 w2)
  have NX : Hid (Nx w1 F F2) := (Nx.refl w1 F).trans d2 J.out.bl.size
  have z0 := bk2.c 0 _ rfl
  have z1 := bk2.c 1 _ rfl
  have z2 := bk2.c 2 _ rfl
  have z3 := bk2.c 3 _ rfl
  have z4 := bk2.c 4 _ rfl
  have z5 := bk2.c 5 _ rfl
  have z6 := bk2.c 6 _ rfl
  have zf := bk2.f
  rcases hres with ⟨h0, v2, rfl, r2, n2⟩ | ⟨h0, rfl⟩
  · obtain ⟨ya, yn, yc, rfl⟩ := owns_sliceS r2
    have e7 : hv p 0 mn 1 (.slice ya yn yc) (tkn 1 []) (mks (hm 1) []) = .agg #[.pointer (some ⟨p, 0, none⟩), .int .i64 0, .int .i64 (mn : Int), .int .i64 1, .slice ya yn yc, .int .i64 1, .string (st (hm 1))] := rfl
    rw [e7]
    have FF : Hid (OpP w w1 p F mn y ⟨0, 1, []⟩ (.returned (.tuple #[.pointer (some ⟨w2.heap.size, 0, none⟩), .int .i64 0])) ((w2.setCells H 0 (hc p 0 mn 1 (.slice ya yn yc) 1 (hm 1) [])).alloc (.cells #[.pointer (some ⟨p, 0, none⟩), .int .i64 0, .int .i64 (mn : Int), .int .i64 1, .slice ya yn yc, .int .i64 1, .string (st (hm 1))] 63))) := by
      have dz := d1.sets F2H (Nat.le_trans HWV.out J.out.nH) (hc p 0 mn 1 (.slice ya yn yc) 1 (hm 1) [])
      have rz : OwnsS (w2.setCells H 0 (hc p 0 mn 1 (.slice ya yn yc) 1 (hm 1) [])) (.slice ya yn yc) [] := ownsRow_same r2 (fun x e => setCells_other w2 H 0 _ x (fun d => by have := (n2 x e).1; have := J.out.bk.lt; omega))
      have hb := box_log (va := w1) (fr := 0) (mn := mn) (g := 1) (tk := 1) (m := hm 1) 63 dz rz (fun z e => ⟨Nat.le_trans J.out.bl.size (n2 z e).1, (n2 z e).2⟩) HWV.out (by rw [size_sets]; exact W1)
      rw [size_sets] at hb
      refine ⟨F2, hb.1.dl, NX.out, (BF.out _).later (nb _ _), .inl ⟨h0, w2.heap.size, .slice ya yn yc, rfl, ?_, hb.2⟩⟩
      have e8 : (⟨0, 1, []⟩ : Lo).h * mn = 0 := Nat.zero_mul _
      rw [e8]
      exact hb.1
    clear J BB d1 d2 d3 HB nF bk2 F2H W1 BF NX r2 n2 e7
    go_wp2
    go_ret2
    exact FF.out
  · have FF : Hid (OpP w w1 p F mn y ⟨0, 1, []⟩ (.returned (.tuple #[.pointer none, .int .i64 y.1])) (w2.setCells H 0 hz0)) :=
      ⟨F2, d1.sets F2H (Nat.le_trans HWV.out J.out.nH) hz0, NX.out, BF.out _, .inr ⟨h0, rfl⟩⟩
    obtain ⟨x, hx⟩ : ∃ x, y.1 = x := ⟨_, rfl⟩
    rw [hx] at h0 FF ⊢
    clear J BB d1 d2 d3 HB nF bk2 F2H W1 BF NX hx
    go_wp2
    go_ret2
    exact FF.out
end Go.Proofs.YtdcimnmebgkmjaaDoor
