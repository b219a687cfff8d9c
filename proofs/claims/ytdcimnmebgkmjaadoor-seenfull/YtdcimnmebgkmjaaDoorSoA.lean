/- Logs on a disk that is up and has no fuse: what a set asks of them. -/
import Derived.Test.YtdcimnmebgkmjaaDoorLhB
import Derived.Lib.AppendZerosOnto
namespace Go.Proofs.YtdcimnmebgkmjaaDoor
open Go.RowKit Go.Proofs.Fd Go.Proofs.Dk Go.Proofs.Lg
set_option maxRecDepth 20000

theorem bgf_head (k H g : Nat) (r : Bs) (f : Nat → Bs) : bgf k H (hd g ++ r) f k = hd g := by
  have hl : 0 < (hd g ++ r).length / 64 := by rw [List.length_append, hd_len]; omega
  have := bgf_in (k := k) (H := H) (b := hd g ++ r) f hl
  rw [Nat.add_zero] at this
  rw [this]
  obtain ⟨m, hm⟩ : ∃ m, (hd g ++ r).length / 64 = m + 1 := ⟨(hd g ++ r).length / 64 - 1, by omega⟩
  simp only [hm]
  show (hd g ++ r).take 64 = hd g
  rw [List.take_left' (hd_len g)]
/-- A log on such a disk. -/
structure Lu (w wr : World) (p : Nat) (F : Nat → Prop) (n : Nat) (f : Nat → Bs) (l : List Wt) (q : Nat) (v : Value) (x : Lo) : Prop where
  hd_ : HD w wr p F (up n f l) q (x.h * (n / 2)) (n / 2) x.g v x.ts x.tk x.mr []
  h1 : x.h ≤ 1
  n4 : 4 ≤ n
  n2 : n ≤ 1024
  tk : x.tk ≤ n / 2
  ok : ∀ t ∈ x.ts, 1 ≤ t.length ∧ t.length ≤ 2000
  sh : lay f l (x.h * (n / 2)) = hd x.g
  g1 : 1 ≤ x.g
  g2 : x.g ≤ 1000000
  ln : l.length ≤ x.tk
section
variable {w wr : World} {p : Nat} {F : Nat → Prop} {n : Nat} {f : Nat → Bs} {l : List Wt} {q : Nat} {v : Value} {x : Lo}
theorem Lu.later (h : Lu w wr p F n f l q v x) {w' : World} (hb : Below wr.heap.size wr w') : Lu w w' p F n f l q v x := ⟨h.hd_.later hb, h.h1, h.n4, h.n2, h.tk, h.ok, h.sh, h.g1, h.g2, h.ln⟩
theorem Lu.other (h : Lu w wr p F n f l q v x) {w' : World} {G : Nat → Prop} (hb : Bf G wr w') (hG : ∀ y, FH F q v y → ¬ G y) (hw : ∀ y, G y → w.heap.size ≤ y) : Lu w w' p F n f l q v x :=
  ⟨⟨⟨h.hd_.dl.at_.other hb (fun y hy => hG y (.inl hy)), h.hd_.dl.new, h.hd_.dl.below.trans (hb.below hw h.hd_.dl.below.size)⟩, h.hd_.hf.bf hb (fun y hy => hG y (.inr hy)), h.hd_.ap⟩, h.h1, h.n4, h.n2, h.tk, h.ok, h.sh, h.g1, h.g2, h.ln⟩
theorem Lu.fh (h : Lu w wr p F n f l q v x) {y : Nat} (hy : FH F q v y) : y < wr.heap.size ∧ w.heap.size ≤ y := by
  rcases hy with e | e
  · exact ⟨h.hd_.dl.at_.lt e, h.hd_.dl.new y e⟩
  · exact ⟨h.hd_.hf.lt e, (h.hd_.ap y e).2⟩
theorem Lu.tlen (h : Lu w wr p F n f l q v x) : x.ts.length ≤ 512 := by
  have h1 := tkn_ge_len x.ts
  have h2 : tkn 1 x.ts ≤ n / 2 := h.tk
  have h3 := h.n2
  omega
theorem Lu.fr (h : Lu w wr p F n f l q v x) : x.h * (n / 2) + n / 2 ≤ n := by
  rcases (by have := h.h1; omega : x.h = 0 ∨ x.h = 1) with e | e
  · rw [e, Nat.zero_mul]; omega
  · rw [e, Nat.one_mul]; omega
end
theorem recordsU (w wr : World) (p : Nat) (F : Nat → Prop) (n : Nat) (f : Nat → Bs) (l : List Wt) (q : Nat) (v : Value) (x : Lo) (h : Lu w wr p F n f l q v x) :
    Calls Tryd.prog 12 #[.pointer (some ⟨q, 0, none⟩)] wr fun e w' => ∃ a c, e = .returned (.slice a x.ts.length c) ∧ TxAt w' a x.ts ∧ Below wr.heap.size wr w' :=
  (lrecords_any q p _ (n / 2) x.g v x.ts x.tk x.mr [] wr (by have := h.tlen; omega) (fun t ht => (h.ok t ht).2) h.hd_.hf).mono fun _ _ ⟨u, he, hr, hb⟩ => by
    obtain ⟨a, c, rfl, tx, -⟩ := owns_tx rfl hr
    exact ⟨a, c, he, tx, hb⟩
/-- A new log. -/
theorem openU_new (w wr : World) (p : Nat) (F : Nat → Prop) (n : Nat) (hn4 : 4 ≤ n) (hn2 : n ≤ 1024) (hk : Kh w) (h : Dl w wr p F (up n zs [])) :
    Calls Tryd.prog 9 #[.pointer (some ⟨p, 0, none⟩)] wr fun e w' => ∃ q v F', e = .returned (.tuple #[.pointer (some ⟨q, 0, none⟩), .int .i64 0]) ∧ Lu w w' p F' n (bgf 0 (n / 2) (hd 1 ++ rcs (hm 1) []) zs) [] q v ⟨0, 1, []⟩ ∧ Bf F wr w' ∧ Nx wr F F' ∧ ∀ z, HFt q v z → wr.heap.size ≤ z := by
  have eo := opn_blank (n := n) zs (fun _ => rfl) (by omega)
  refine (lopen_any w wr p F (up n zs []) (by show 2 ≤ n / 2; omega) (by show 0 + 2000 ≤ 1000000; decide) hk h).mono ?_
  rintro e w' ⟨F', d1, d2, d3, hres⟩
  rw [eo] at d1 hres
  rcases hres with ⟨-, q, v, he, hh, nn⟩ | ⟨c, -⟩
  · refine ⟨q, v, F', he, ⟨hh, by decide, hn4, hn2, by show 1 ≤ n / 2; omega, nofun, ?_, by decide, by decide, Nat.zero_le _⟩, d3, d2, nn⟩
    show bgf 0 (n / 2) _ zs (0 * (n / 2)) = hd 1
    rw [Nat.zero_mul]
    exact bgf_head _ _ _ _ _
  · exact absurd rfl c
/-- A record is appended, and finds room. -/
theorem appendE (w wr : World) (p : Nat) (F : Nat → Prop) (n : Nat) (f : Nat → Bs) (l : List Wt) (q : Nat) (v : Value) (x : Lo) (X : ByteArray) (hX : may X.data.toList = 0) (hf : x.tk + sn X.data.toList ≤ n / 2) (hk : Kh w) (h : Lu w wr p F n f l q v x) :
    Calls Tryd.prog 11 #[.pointer (some ⟨q, 0, none⟩), .string X] wr fun e w' =>
      e = .returned (.int .i64 0) ∧ ∃ F' v', Lu w w' p F' n f (l ++ wts (x.h * (n / 2) + x.tk) (chs (sn X.data.toList) (rcd x.mr X.data.toList))) q v' { x with ts := x.ts ++ [X.data.toList] } ∧ Nx2 wr F q v F' v' ∧ Bf (FH F q v) wr w' := by
  have hx : x.tk ≤ n / 2 := h.tk
  have hn2 := h.n2
  have hfr := h.fr
  have hln := h.ln
  refine (lappend_any w wr p F (up n f l) q (x.h * (n / 2)) (n / 2) x.g v x.ts x.tk x.mr X (mks_len _ _ rfl) (by have := h.tlen; omega) h.tk (by omega) (by omega) (by show l.length + 100 ≤ 1000000; omega) hk h.hd_).mono ?_
  rintro e w' ⟨he, F', v', n1, b1, hh⟩
  unfold apR at he hh
  rw [if_neg (by rw [hX]; simp), if_neg (by omega)] at he hh
  have ew := wrb_u (rcd_len x.mr X.data.toList) (n := n) (k := x.h * (n / 2) + x.tk) (by omega) f l
  rw [ew] at he hh
  refine ⟨he, F', v', ?_, n1, b1⟩
  have et : (⟨x.h, x.g, x.ts ++ [X.data.toList]⟩ : Lo).tk = x.tk + sn X.data.toList := tkn_app x.ts 1 _
  have em : (⟨x.h, x.g, x.ts ++ [X.data.toList]⟩ : Lo).mr = rmk x.mr X.data.toList := mks_app x.ts (hm x.g) _
  rcases hh with ⟨-, hh⟩ | ⟨c, -⟩
  · refine ⟨?_, h.h1, h.n4, h.n2, ?_, ?_, ?_, h.g1, h.g2, ?_⟩
    · show HD _ _ _ _ _ _ _ _ _ _ _ (⟨x.h, x.g, x.ts ++ [X.data.toList]⟩ : Lo).tk (⟨x.h, x.g, x.ts ++ [X.data.toList]⟩ : Lo).mr _
      rw [et, em]
      exact hh
    · show (⟨x.h, x.g, x.ts ++ [X.data.toList]⟩ : Lo).tk ≤ _
      rw [et]
      omega
    · intro t ht
      rcases List.mem_append.1 ht with ht | ht
      · exact h.ok t ht
      · rw [List.mem_singleton] at ht
        subst ht
        exact may_ok hX
    · show lay f (l ++ _) (x.h * (n / 2)) = hd x.g
      have h1 := tkn_ge x.ts 1
      rw [lay_lay, wts_at, dif_neg (by show ¬ (x.h * (n / 2) + tkn 1 x.ts ≤ _ ∧ _); omega)]
      exact h.sh
    · show (l ++ _).length ≤ (⟨x.h, x.g, x.ts ++ [X.data.toList]⟩ : Lo).tk
      rw [et, List.length_append, wts_len, chs_len]
      omega
  · exact absurd rfl c
theorem syncE (w wr : World) (p : Nat) (F : Nat → Prop) (n : Nat) (f : Nat → Bs) (l : List Wt) (q : Nat) (v : Value) (x : Lo) (h : Lu w wr p F n f l q v x) :
    Calls Tryd.prog 27 #[.pointer (some ⟨q, 0, none⟩)] wr fun e w' => e = .returned (.int .i64 0) ∧ ∃ F', Lu w w' p F' n (lay f l) [] q v x ∧ Nx wr F F' ∧ Bf F wr w' := by
  have hln := h.ln
  have htk : x.tk ≤ n / 2 := h.tk
  have hn2 := h.n2
  exact (lsyncl_any w wr p F (up n f l) q _ _ x.g v x.ts x.tk x.mr [] (by show l.length ≤ 1000000; omega) h.hd_).mono fun _ _ ⟨he, F', d1, d2, d3⟩ => ⟨he, F', ⟨h.hd_.disk d1 d2 d3, h.h1, h.n4, h.n2, h.tk, h.ok, h.sh, h.g1, h.g2, Nat.zero_le _⟩, d2, d3⟩
end Go.Proofs.YtdcimnmebgkmjaaDoor

/- A set in memory: its block, the tags of two epochs; what is asked of them. -/
namespace Go.Proofs.YtdcimnmebgkmjaaDoor
open Go.RowKit Go.Proofs.Fd Go.Proofs.Dk Go.Proofs.Lg
set_option maxRecDepth 20000

/-- A set's cells. -/
abbrev stc (q ep : Nat) (va vh : Value) (most : Nat) : List Value := [.pointer (some ⟨q, 0, none⟩), .int .i64 (ep : Int), va, vh, .int .i64 (most : Int)]
/-- A set at a block: the epoch, the tags of the one ahead, and its own. -/
structure Es (w : World) (b q ep most : Nat) (va vh : Value) (ah he : List Bs) : Prop where
  bk : Blk w b (stc q ep va vh most)
  ra : OwnsS w va ah
  rh : OwnsS w vh he
  av : va.ownBlock ≠ some b
  hv : vh.ownBlock ≠ some b
  ne : ∀ g, va.ownBlock = some g → vh.ownBlock ≠ some g
def EFt (b : Nat) (va vh : Value) (g : Nat) : Prop := g = b ∨ va.ownBlock = some g ∨ vh.ownBlock = some g
section
variable {w : World} {b q ep most : Nat} {va vh : Value} {ah he : List Bs}
theorem Es.lt (h : Es w b q ep most va vh ah he) {x : Nat} (hx : EFt b va vh x) : x < w.heap.size := by
  rcases hx with rfl | e | e
  · exact h.bk.lt
  · exact (h.ra.lt x e).2
  · exact (h.rh.lt x e).2
theorem Es.same (h : Es w b q ep most va vh ah he) {w' : World} (hs : ∀ x, EFt b va vh x → w'.heap[x]? = w.heap[x]?) : Es w' b q ep most va vh ah he :=
  ⟨h.bk.same (hs b (.inl rfl)), ownsRow_same h.ra (fun x e => hs x (.inr (.inl e))), ownsRow_same h.rh (fun x e => hs x (.inr (.inr e))), h.av, h.hv, h.ne⟩
theorem Es.later (h : Es w b q ep most va vh ah he) {w' : World} (hb : Below w.heap.size w w') : Es w' b q ep most va vh ah he := h.same fun x hx => hb.block x (h.lt hx)
theorem Es.bf (h : Es w b q ep most va vh ah he) {F : Nat → Prop} {w' : World} (hb : Bf F w w') (hF : ∀ x, EFt b va vh x → ¬ F x) : Es w' b q ep most va vh ah he := h.same fun x hx => hb.block x (h.lt hx) (hF x hx)
/-- One cell of its block is stored: the lists stay. -/
theorem Es.setc (h : Es w b q ep most va vh ah he) (i : Nat) (u : Value) (hi : i < 5) : Blk (w.setCell ⟨b, i, none⟩ u) b ((stc q ep va vh most).set i u) ∧ OwnsS (w.setCell ⟨b, i, none⟩ u) va ah ∧ OwnsS (w.setCell ⟨b, i, none⟩ u) vh he :=
  ⟨h.bk.set i hi u, ownsRow_same h.ra (fun x e => Below.heap_setCell w ⟨b, i, none⟩ u x (fun c => h.av (by rw [e, c]))), ownsRow_same h.rh (fun x e => Below.heap_setCell w ⟨b, i, none⟩ u x (fun c => h.hv (by rw [e, c])))⟩
theorem Es.setEp (h : Es w b q ep most va vh ah he) (k : Nat) : Es (w.setCell ⟨b, 1, none⟩ (.int .i64 (k : Int))) b q k most va vh ah he := by
  obtain ⟨h1, h2, h3⟩ := h.setc 1 (.int .i64 (k : Int)) (by decide)
  exact ⟨h1, h2, h3, h.av, h.hv, h.ne⟩
theorem Es.setHere (h : Es w b q ep most va vh ah he) {w' : World} {v' : Value} {us : List Bs} (k : w.grownBy w' vh.ownBlock) (o : OwnsS w' v' us) (hv : v'.ownBlock = vh.ownBlock ∨ v'.ownBlock = some w.heap.size) :
    Es (w'.setCell ⟨b, 3, none⟩ v') b q ep most va v' ah us := by
  have hq : w'.heap[b]? = w.heap[b]? := k.block b h.bk.lt (fun e => h.hv e.symm)
  have hn : v'.ownBlock ≠ some b := fun c => by
    rcases hv with e | e
    · exact h.hv (e.symm.trans c)
    · rw [e] at c
      injection c with c
      have := h.bk.lt
      omega
  have b1 := (h.bk.same hq).set 3 (show 3 < 5 by decide) v'
  refine ⟨b1, ownsRow_same h.ra (fun x e => ?_), ownsRow_same o (fun x e => Below.heap_setCell w' ⟨b, 3, none⟩ v' x (fun c => hn (by rw [e, c]))), h.av, hn, fun g e c => ?_⟩
  · rw [Below.heap_setCell w' ⟨b, 3, none⟩ v' x (fun c => h.av (by rw [e, c]))]
    exact k.block x (h.ra.lt x e).2 (fun c => h.ne x e c.symm)
  · rcases hv with e2 | e2
    · exact h.ne g e (e2.symm.trans c)
    · rw [e2] at c
      injection c with c
      have := (h.ra.lt g e).2
      omega
end
/-- Where a text lies in a list. -/
theorem sindex_any (a : Option Addr) (n c : Nat) (l : List Bs) (hn : l.length = n) (hnb : n ≤ 1000000) (X : ByteArray) (w : World) (h : Hid (TxAt w a l)) :
    Calls Tryd.prog 79 #[.slice a n c, .string X] w fun e w' => ∃ z : Int, e = .returned (.int .i64 z) ∧ (0 ≤ z ↔ X.data.toList ∈ l) ∧ w' = w := by
  have HN : Hid (l.length = n) := hn
  clear hn
  go_enter Tryd.func79, Tryd.ntmps79
  go_wp2
  go_loopw [8] (fun i wr => ∃ k : Nat, k ≤ n ∧ i = .int .i64 (k : Int) ∧ Hid (X.data.toList ∉ l.take k) ∧ w = wr) (fun i _ => n - (intOf i).toNat)
  case atStart => exact ⟨0, Nat.zero_le _, rfl, (by rw [List.take_zero]; exact List.not_mem_nil), rfl⟩
  case round =>
    obtain ⟨k, hk, rfl, J, rfl⟩ := hrel
    by_cases hlt : k < n
    · have hkl : k < l.length := by rw [HN.out]; exact hlt
      have g1 : (k : Int) < (n : Int) := by omega
      obtain ⟨b1, o1, rfl, c1⟩ := h.out k hkl
      have ET : Hid (l.take (k + 1) = l.take k ++ [l[k]]) := List.take_succ_eq_append_getElem hkl
      have EM : Hid (l[k] ∈ l) := List.getElem_mem hkl
      obtain ⟨t, ht⟩ : ∃ t, l[k] = t := ⟨_, rfl⟩
      rw [ht] at c1 ET EM
      unfold sv at c1
      clear ht
      by_cases he : X = st t
      · subst he
        have EM2 : Hid ((st t).data.toList ∈ l) := EM.out
        obtain ⟨T, hT⟩ : ∃ T, st t = T := ⟨_, rfl⟩
        rw [hT] at c1 EM2 ⊢
        clear hT J ET
        go_wp2
        go_ret
        exact ⟨(k : Int), rfl, ⟨fun _ => by first | exact EM2.out | exact EM.out, fun _ => by omega⟩, rfl⟩
      · have HE : Hid (X.data.toList ≠ t) := fun c => he (by rw [← c]; rfl)
        have hne : (X.toList == (st t).toList) = false := by
          rw [ByteArray.toList_eq, ByteArray.toList_eq]
          exact beq_eq_false_iff_ne.2 HE.out
        obtain ⟨T, hT⟩ : ∃ T, st t = T := ⟨_, rfl⟩
        rw [hT] at c1 hne
        clear hT he
        go_wp2
        go_roundw
        case rel => exact ⟨k + 1, by omega, rfl, (by rw [ET.out]; intro c; rcases List.mem_append.1 c with c | c; exact J.out c; exact HE.out (List.mem_singleton.1 c)), by first | rfl | trivial⟩
        case measure => simp [intOf]; omega
    · have g1 : ¬ (k : Int) < (n : Int) := by omega
      have hkn : k = n := by omega
      go_wp2
      go_ret
      refine ⟨-1, rfl, ⟨fun c => absurd c (by decide), fun c => ?_⟩, rfl⟩
      rw [← List.take_of_length_le (show l.length ≤ k by rw [HN.out]; omega)] at c
      exact absurd c J.out
theorem scontains_any (a : Option Addr) (n c : Nat) (l : List Bs) (hn : l.length = n) (hnb : n ≤ 1000000) (X : ByteArray) (w : World) (h : Hid (TxAt w a l)) :
    Calls Tryd.prog 62 #[.slice a n c, .string X] w fun e w' => e = .returned (.bool (decide (X.data.toList ∈ l))) ∧ w' = w := by
  have IX : Hid _ := sindex_any a n c l hn hnb X w h
  clear h hn
  go_enter Tryd.func62, Tryd.ntmps62
  go_wp2_with fail
  refine Calls.mono IX.out ?_
  rintro e w1 ⟨z, rfl, hz, rfl⟩
  clear IX
  by_cases hm : X.data.toList ∈ l
  · have hz2 : 0 ≤ z := hz.2 hm
    have HM : Hid (X.data.toList ∈ l) := hm
    clear hz hm
    go_wp2
    go_ret
    exact ⟨by rw [decide_eq_true HM.out]; rfl, rfl⟩
  · have hz2 : decide (0 ≤ z) = false := decide_eq_false fun c => hm (hz.1 c)
    have HM : Hid (X.data.toList ∉ l) := hm
    clear hz hm
    go_wp2
    go_ret
    exact ⟨by rw [decide_eq_false HM.out]; rfl, rfl⟩
theorem ehas_any (b q ep most : Nat) (va vh : Value) (ah he : List Bs) (h1 : ah.length ≤ 100000) (h2 : he.length ≤ 100000) (X : ByteArray) (w : World) (h : Hid (Es w b q ep most va vh ah he)) :
    Calls Tryd.prog 43 #[.pointer (some ⟨b, 1, none⟩), .string X] w fun e w' => e = .returned (.bool (decide (X.data.toList ∈ ah ++ he))) ∧ w' = w := by
  obtain ⟨a1, c1, rfl, t1, -⟩ := owns_tx rfl h.out.ra
  obtain ⟨a2, c2, rfl, t2, -⟩ := owns_tx rfl h.out.rh
  have S1 : Hid _ := scontains_any a1 ah.length c1 ah rfl (by omega) X w t1
  have S2 : Hid _ := scontains_any a2 he.length c2 he rfl (by omega) X w t2
  have k2 := h.out.bk.c 2 _ rfl
  have k3 := h.out.bk.c 3 _ rfl
  clear t1 t2 h
  by_cases m1 : X.data.toList ∈ ah
  · have e0 : decide (X.data.toList ∈ ah ++ he) = true := decide_eq_true (List.mem_append_left _ m1)
    rw [decide_eq_true m1] at S1
    rw [e0]
    clear e0 m1
    go_enter Tryd.func43, Tryd.ntmps43
    go_wp2_with fail
    refine Calls.mono S1.out ?_
    rintro e w1 ⟨rfl, rfl⟩
    go_wp2
    go_ret
    exact ⟨rfl, rfl⟩
  · have e0 : decide (X.data.toList ∈ ah ++ he) = decide (X.data.toList ∈ he) := by
      by_cases m2 : X.data.toList ∈ he
      · rw [decide_eq_true m2, decide_eq_true (List.mem_append_right _ m2)]
      · rw [decide_eq_false m2, decide_eq_false (fun c => by rcases List.mem_append.1 c with c | c; exact m1 c; exact m2 c)]
    rw [decide_eq_false m1] at S1
    rw [e0]
    obtain ⟨z, hz⟩ : ∃ z, decide (X.data.toList ∈ he) = z := ⟨_, rfl⟩
    rw [hz] at S2 ⊢
    clear e0 m1 hz
    go_enter Tryd.func43, Tryd.ntmps43
    go_wp2_with fail
    refine Calls.mono S1.out ?_
    rintro e w1 ⟨rfl, rfl⟩
    go_wp2_with fail
    refine Calls.mono S2.out ?_
    rintro e w1 ⟨rfl, rfl⟩
    go_wp2
    go_ret
    exact ⟨rfl, rfl⟩
theorem shas_any (b q ep most : Nat) (va vh : Value) (ah he : List Bs) (h1 : ah.length ≤ 100000) (h2 : he.length ≤ 100000) (X : ByteArray) (w : World) (h : Hid (Es w b q ep most va vh ah he)) :
    Calls Tryd.prog 24 #[.pointer (some ⟨b, 0, none⟩), .string X] w fun e w' => e = .returned (.bool (decide (X.data.toList ∈ ah ++ he))) ∧ w' = w := by
  have S1 : Hid _ := ehas_any b q ep most va vh ah he h1 h2 X w h
  have k0 := h.out.bk.c 0 _ rfl
  obtain ⟨z, hz⟩ : ∃ z, decide (X.data.toList ∈ ah ++ he) = z := ⟨_, rfl⟩
  rw [hz] at S1 ⊢
  clear hz h h1 h2
  go_enter Tryd.func24, Tryd.ntmps24
  go_wp2_with fail
  refine Calls.mono S1.out ?_
  rintro e w1 ⟨rfl, rfl⟩
  go_wp2
  go_ret
  exact ⟨rfl, rfl⟩
theorem sepoch_any (b q ep most : Nat) (va vh : Value) (ah he : List Bs) (w : World) (h : Hid (Es w b q ep most va vh ah he)) :
    Calls Tryd.prog 25 #[.pointer (some ⟨b, 0, none⟩)] w fun e w' => e = .returned (.int .i64 (ep : Int)) ∧ w' = w := by
  have k0 := h.out.bk.c 0 _ rfl
  have k1 := h.out.bk.c 1 _ rfl
  clear h
  go_enter Tryd.func25, Tryd.ntmps25
  go_wp2
  go_ret
  exact ⟨rfl, rfl⟩
set_option maxHeartbeats 1000000 in
theorem emany_any (b q ep most : Nat) (va vh : Value) (ah he : List Bs) (h1 : ah.length ≤ 100000) (h2 : he.length ≤ 100000) (w : World) (h : Hid (Es w b q ep most va vh ah he)) :
    Calls Tryd.prog 41 #[.pointer (some ⟨b, 1, none⟩)] w fun e w' => e = .returned (.int .i64 ((ah.length + he.length : Nat) : Int)) ∧ Below w.heap.size w w' := by
  obtain ⟨a1, c1, rfl, -, -⟩ := owns_tx rfl h.out.ra
  obtain ⟨a2, c2, rfl, -, -⟩ := owns_tx rfl h.out.rh
  have k2 := h.out.bk.c 2 _ rfl
  have k3 := h.out.bk.c 3 _ rfl
  obtain ⟨n, hn⟩ : ∃ n, ah.length = n := ⟨_, rfl⟩
  obtain ⟨m, hm⟩ : ∃ m, he.length = m := ⟨_, rfl⟩
  rw [hn] at k2 h1 ⊢
  rw [hm] at k3 h2 ⊢
  have e1 : IntKind.i64.wrap ((n : Int) + (m : Int)) = ((n + m : Nat) : Int) := by rw [IntKind.wrap_i64]; omega
  clear hn hm h
  go_enter Tryd.func41, Tryd.ntmps41
  go_wp2_with fail
  go_region_with fail
  all_goals
    go_wp2
    go_ret
    exact ⟨by first | rfl | go_num, by first | exact (Below.refl _ _).drew | exact Below.refl _ _⟩
end Go.Proofs.YtdcimnmebgkmjaaDoor

/- A set's records, and what they make of it. -/
namespace Go.Proofs.YtdcimnmebgkmjaaDoor
open Go.RowKit Go.Proofs.Fd Go.Proofs.Dk Go.Proofs.Lg
set_option maxRecDepth 20000

theorem sprefix_any (d c : UInt8) (t : Bs) (ht : t.length ≤ 100000) (w : World) :
    Calls Tryd.prog 91 #[.string (st (d :: t)), .string ⟨#[c]⟩] w fun e w' => e = .returned (.bool (decide (d = c))) ∧ w' = w := by
  have hs : (st (d :: t)).size = t.length + 1 := by rw [st_size]; rfl
  have hx : (st (d :: t)).extract 0 1 = ⟨#[d]⟩ := by rw [st_cut]; rfl
  have hc : (⟨#[c]⟩ : ByteArray).size = 1 := rfl
  obtain ⟨S, hS⟩ : ∃ S, st (d :: t) = S := ⟨_, rfl⟩
  rw [hS] at hs hx ⊢
  have l1 : (1 : Int) ≤ (S.size : Int) := by omega
  have l2 : 1 ≤ S.size := by omega
  clear hS hs ht
  by_cases e : d = c
  · subst e
    rw [decide_eq_true rfl]
    obtain ⟨C, hC⟩ : ∃ C : ByteArray, ⟨#[d]⟩ = C := ⟨_, rfl⟩
    rw [hC] at hx hc ⊢
    clear hC
    go_enter Tryd.func91, Tryd.ntmps91
    go_wp2
    go_ret
    exact ⟨rfl, rfl⟩
  · rw [decide_eq_false e]
    have hne : ((⟨#[d]⟩ : ByteArray).toList == (⟨#[c]⟩ : ByteArray).toList) = false := by
      rw [ByteArray.toList_eq, ByteArray.toList_eq]
      exact beq_eq_false_iff_ne.2 fun h => e (by injection h)
    obtain ⟨C, hC⟩ : ∃ C : ByteArray, ⟨#[c]⟩ = C := ⟨_, rfl⟩
    obtain ⟨D, hD⟩ : ∃ D : ByteArray, ⟨#[d]⟩ = D := ⟨_, rfl⟩
    rw [hC] at hc hne ⊢
    rw [hD] at hx hne
    clear hC hD e
    go_enter Tryd.func91, Tryd.ntmps91
    go_wp2
    go_ret
    exact ⟨rfl, rfl⟩
/-- A text without its first byte, if it is that. -/
theorem scut_any (d c : UInt8) (t : Bs) (ht : t.length ≤ 100000) (w : World) :
    Calls Tryd.prog 57 #[.string (st (d :: t)), .string ⟨#[c]⟩] w fun e w' => e = .returned (.tuple #[.string (if d = c then st t else st (d :: t)), .bool (decide (d = c))]) ∧ w' = w := by
  have CP : Hid (∀ w, Calls Tryd.prog 77 #[.string (st (d :: t)), .string ⟨#[c]⟩] w fun e w' => e = .returned (.tuple #[.string (if d = c then st t else st (d :: t)), .bool (decide (d = c))]) ∧ w' = w) := fun w => by
    have HP : Hid _ := sprefix_any d c t ht w
    have hs : (st (d :: t)).size = t.length + 1 := by rw [st_size]; rfl
    have hx : (st (d :: t)).extract 1 (st (d :: t)).size = st t := by
      rw [st_cut, hs, List.take_of_length_le (by rw [List.length_cons]; exact Nat.le_refl _)]; rfl
    have hc : (⟨#[c]⟩ : ByteArray).size = 1 := rfl
    by_cases e : d = c
    · rw [if_pos e]
      rw [decide_eq_true e] at HP ⊢
      clear e
      obtain ⟨S, hS⟩ : ∃ S, st (d :: t) = S := ⟨_, rfl⟩
      obtain ⟨T, hT⟩ : ∃ T, st t = T := ⟨_, rfl⟩
      obtain ⟨C, hC⟩ : ∃ C : ByteArray, ⟨#[c]⟩ = C := ⟨_, rfl⟩
      rw [hS] at hs hx HP ⊢
      rw [hC] at hc HP ⊢
      rw [hT] at hx ⊢
      have l1 : (1 : Int) ≤ (S.size : Int) := by omega
      have l2 : 1 ≤ S.size := by omega
      clear hS hT hC hs ht
      go_enter Tryd.func77, Tryd.ntmps77
      go_wp2_with fail
      refine Calls.mono HP.out ?_
      rintro e w1 ⟨rfl, rfl⟩
      go_wp2
      go_ret2
      exact ⟨rfl, rfl⟩
    · rw [if_neg e]
      rw [decide_eq_false e] at HP ⊢
      clear e hx
      obtain ⟨S, hS⟩ : ∃ S, st (d :: t) = S := ⟨_, rfl⟩
      obtain ⟨C, hC⟩ : ∃ C : ByteArray, ⟨#[c]⟩ = C := ⟨_, rfl⟩
      rw [hS] at hs HP ⊢
      rw [hC] at hc HP ⊢
      clear hS hC hs ht
      go_enter Tryd.func77, Tryd.ntmps77
      go_wp2_with fail
      refine Calls.mono HP.out ?_
      rintro e w1 ⟨rfl, rfl⟩
      go_wp2
      go_ret2
      exact ⟨rfl, rfl⟩
  obtain ⟨S, hS⟩ : ∃ S, st (d :: t) = S := ⟨_, rfl⟩
  obtain ⟨C, hC⟩ : ∃ C : ByteArray, ⟨#[c]⟩ = C := ⟨_, rfl⟩
  obtain ⟨z, hz⟩ : ∃ z, decide (d = c) = z := ⟨_, rfl⟩
  obtain ⟨R, hR⟩ : ∃ R, (if d = c then st t else st (d :: t)) = R := ⟨_, rfl⟩
  rw [hR, hz] at CP ⊢
  rw [hS, hC] at CP ⊢
  clear hS hC hz hR ht
  go_enter Tryd.func57, Tryd.ntmps57
  go_wp2_with fail
  refine Calls.mono (CP.out _) ?_
  rintro e w1 ⟨rfl, rfl⟩
  go_wp2
  go_ret2
  exact ⟨rfl, rfl⟩
set_option maxHeartbeats 1000000 in
theorem snumber_any (b : Bs) (h1 : b.length = 4) (w : World) : Calls Tryd.prog 60 #[sv b] w fun e w' => e = .returned (.int .i64 (nm b : Int)) ∧ w' = w := by
  have hs : (st b).size = b.length := st_size b
  obtain ⟨X, hX⟩ : ∃ X, st b = X := ⟨_, rfl⟩
  unfold sv
  rw [hX, h1] at hs
  rw [hX]
  have HX : Hid (st b = X) := hX
  clear hX
  go_enter Tryd.func60, Tryd.ntmps60
  go_wp2
  go_loopw [3, 7] (fun x i wr => ∃ k : Nat, k ≤ 4 ∧ i = .int .i64 (k : Int) ∧ x = .int .i64 (nm (b.take k) : Int) ∧ wr = w) (fun _ i _ => 4 - (intOf i).toNat)
  case atStart => exact ⟨0, Nat.zero_le _, rfl, rfl, rfl⟩
  case round =>
    obtain ⟨k, hk4, rfl, rfl, rfl⟩ := hrel
    by_cases hk5 : k < 4
    · have g1 : (k : Int) < 4 := by omega
      have l0 : k < X.size := by omega
      have l1 : (k : Int) < (X.size : Int) := by omega
      have hlt := nm_lt (b.take k)
      have hpw : 256 ^ (b.take k).length ≤ 16777216 := by
        have : (b.take k).length ≤ 3 := by rw [List.length_take]; omega
        exact Nat.le_trans (Nat.pow_le_pow_right (by decide) this) (by decide)
      obtain ⟨c, hc⟩ : ∃ c, X[k] = c := ⟨_, rfl⟩
      have hc2 : b[k]'(by omega) = c := by
        have := HX.out
        subst this
        rw [← hc]
        rfl
      have hst : nm (b.take (k + 1)) = nm (b.take k) * 256 + c.toNat := by
        rw [List.take_succ_eq_append_getElem (by omega), nm_app, hc2]
      obtain ⟨n, hn⟩ : ∃ n, nm (b.take k) = n := ⟨_, rfl⟩
      rw [hn] at hst hlt ⊢
      have hcl := c.toNat_lt
      have t1 : IntKind.i64.wrap (c.toNat : Int) = (c.toNat : Int) := by rw [IntKind.wrap_i64]; omega
      have t2 : IntKind.i64.wrap ((n : Int) * 256) = (n : Int) * 256 := by rw [IntKind.wrap_i64]; omega
      have OW := or_low n c (by omega)
      have HST : Hid (nm (b.take (k + 1)) = n * 256 + c.toNat) := hst
      clear hst hn hc2 hlt hpw hcl
      go_wp2
      go_roundw
      case rel => exact ⟨k + 1, by omega, rfl, by rw [HST.out]; simp, by first | rfl | trivial⟩
      case measure => simp [intOf]; omega
    · obtain rfl : k = 4 := by omega
      have e4 : b.take 4 = b := List.take_of_length_le (by omega)
      rw [e4]
      obtain ⟨n, hn⟩ : ∃ n, nm b = n := ⟨_, rfl⟩
      rw [hn]
      have HN : Hid (nm b = n) := hn
      clear hn
      go_wp2
      go_ret
      exact ⟨by rw [HN.out]; rfl, by first | rfl | trivial⟩
/-- A tag's record. -/
theorem stagr_any (t : Bs) (ht : t.length ≤ 100000) (w : World) : Calls Tryd.prog 42 #[.string (st t)] w fun e w' => e = .returned (.string (st (84 :: t))) ∧ w' = w := by
  have HP : Hid ((⟨#[84]⟩ : ByteArray) ++ st t = st (84 :: t)) := st_app [84] t
  have hy : (st t).size ≤ 100000 := by rw [st_size]; exact ht
  obtain ⟨T, hT⟩ : ∃ T, st t = T := ⟨_, rfl⟩
  rw [hT] at HP hy ⊢
  rw [← HP.out]
  clear hT HP ht
  have h63 : ¬ 9223372036854775807 < 1 + T.size := by omega
  go_enter Tryd.func42, Tryd.ntmps42
  go_wp2
  go_ret
  exact ⟨rfl, rfl⟩
theorem ben4 (n : Nat) : ben n 4 = [UInt8.ofNat (n / 16777216), UInt8.ofNat (n / 65536), UInt8.ofNat (n / 256), UInt8.ofNat n] := by
  show [UInt8.ofNat (n / 2 ^ 24), UInt8.ofNat (n / 2 ^ 16), UInt8.ofNat (n / 2 ^ 8), UInt8.ofNat (n / 2 ^ 0)] = _
  rw [show n / 2 ^ 0 = n by simp]
set_option maxHeartbeats 1000000 in
/-- An epoch's record. -/
theorem sepr_any (n : Nat) (w : World) : Calls Tryd.prog 40 #[.int .i64 (n : Int)] w fun e w' => e = .returned (.string (st (69 :: ben n 4))) ∧ Below w.heap.size w w' := by
  have HP : Hid ((⟨#[69]⟩ : ByteArray) ++ st (ben n 4) = st (69 :: ben n 4)) := st_app [69] (ben n 4)
  have hy : (st (ben n 4)).size = 4 := by rw [st_size, ben_len]
  have b0 : (n : Int) / 16777216 % 256 = ((UInt8.ofNat (n / 16777216)).toNat : Int) := by rw [UInt8.toNat_ofNat']; simp
  have b1 : (n : Int) / 65536 % 256 = ((UInt8.ofNat (n / 65536)).toNat : Int) := by rw [UInt8.toNat_ofNat']; simp
  have b2 : (n : Int) / 256 % 256 = ((UInt8.ofNat (n / 256)).toNat : Int) := by rw [UInt8.toNat_ofNat']; simp
  have b3 : (n : Int) % 256 = ((UInt8.ofNat n).toNat : Int) := by rw [UInt8.toNat_ofNat']; simp
  have BA : BytesAt (w.alloc (.cells #[.int .u8 ((UInt8.ofNat (n / 16777216)).toNat : Int), .int .u8 ((UInt8.ofNat (n / 65536)).toNat : Int), .int .u8 ((UInt8.ofNat (n / 256)).toNat : Int), .int .u8 ((UInt8.ofNat n).toNat : Int)] 5)) w.heap.size (ben n 4) := by
    rw [ben4]
    intro j hj
    refine ⟨?_, by simp [go_sem]⟩
    rw [World.cell?_alloc_new]
    match j, hj with
    | 0, _ => rfl
    | 1, _ => rfl
    | 2, _ => rfl
    | 3, _ => rfl
  have CV := BA.string (cap := 4) (ben_len n 4)
  have NB : Hid (Below w.heap.size w (w.alloc (.cells #[.int .u8 ((UInt8.ofNat (n / 16777216)).toNat : Int), .int .u8 ((UInt8.ofNat (n / 65536)).toNat : Int), .int .u8 ((UInt8.ofNat (n / 256)).toNat : Int), .int .u8 ((UInt8.ofNat n).toNat : Int)] 5))) := (Below.refl _ _).alloc (Nat.le_refl _) _
  clear BA
  obtain ⟨c0, h0⟩ : ∃ c, (UInt8.ofNat (n / 16777216)).toNat = c := ⟨_, rfl⟩
  obtain ⟨c1, h1⟩ : ∃ c, (UInt8.ofNat (n / 65536)).toNat = c := ⟨_, rfl⟩
  obtain ⟨c2, h2⟩ : ∃ c, (UInt8.ofNat (n / 256)).toNat = c := ⟨_, rfl⟩
  obtain ⟨c3, h3⟩ : ∃ c, (UInt8.ofNat n).toNat = c := ⟨_, rfl⟩
  rw [h0] at b0
  rw [h1] at b1
  rw [h2] at b2
  rw [h3] at b3
  rw [h0, h1, h2, h3] at CV NB
  clear h0 h1 h2 h3
  go_enter Tryd.func40, Tryd.ntmps40
  go_wp2
  go_ret
  exact ⟨by rw [← HP.out]; rfl, NB.out⟩
end Go.Proofs.YtdcimnmebgkmjaaDoor

/- What a record makes of a set. -/
namespace Go.Proofs.YtdcimnmebgkmjaaDoor
open Go.RowKit Go.Proofs.Fd Go.Proofs.Dk Go.Proofs.Lg
set_option maxRecDepth 20000

theorem EFt.here {w w' : World} {b : Nat} {va vh v' : Value} (hv : v'.ownBlock = vh.ownBlock ∨ v'.ownBlock = some w'.heap.size) (hs : w.heap.size ≤ w'.heap.size) : Nx w (EFt b va vh) (EFt b va v') := fun x hx => by
  rcases hx with e | e | e
  · exact .inl (.inl e)
  · exact .inl (.inr (.inl e))
  · rcases hv with h | h
    · exact .inl (.inr (.inr (h.symm.trans e)))
    · rw [h] at e
      injection e with e
      exact .inr (by omega)
set_option maxHeartbeats 1000000 in
theorem eadd_any (b q ep most : Nat) (va vh : Value) (ah he : List Bs) (h1 : ah.length ≤ 100000) (h2 : he.length ≤ 100000) (t : Bs) (hm : t ∉ ah ++ he) (w : World) (h : Hid (Es w b q ep most va vh ah he)) :
    Calls Tryd.prog 58 #[.pointer (some ⟨b, 1, none⟩), .string (st t)] w fun e w' => e = .returned (.tuple #[]) ∧ ∃ v', Es w' b q ep most va v' ah (he ++ [t]) ∧ Bf (EFt b va vh) w w' ∧ Nx w (EFt b va vh) (EFt b va v') := by
  have HS : Hid _ := ehas_any b q ep most va vh ah he h1 h2 (st t) w h
  rw [st_data, decide_eq_false hm] at HS
  have hn : he.length ≤ 1000000 := by omega
  have H1 : Hid (Es (w.alloc (.cells #[.string (st t)] 9)) b q ep most va vh ah he) := h.out.later (nb _ _)
  obtain ⟨v', w', r1, r2, r3, r4⟩ := app_str (w.alloc (.cells #[.string (st t)] 9)) 22 vh he H1.out.rh hn t w.heap.size (by rw [World.cell?_alloc_new]; rfl)
  obtain ⟨a3, n3, c3, rfl⟩ := owns_sliceS r2
  have E2 : Hid (Es (w'.setCell ⟨b, 3, none⟩ (.slice a3 n3 c3)) b q ep most va (.slice a3 n3 c3) ah (he ++ [t]) ∧ Bf (EFt b va vh) w (w'.setCell ⟨b, 3, none⟩ (.slice a3 n3 c3)) ∧ Nx w (EFt b va vh) (EFt b va (.slice a3 n3 c3))) := by
    refine ⟨H1.out.setHere r3 r2 r4, ?_, EFt.here r4 (by simp)⟩
    exact bf_set ((Bf.of (nb w (.cells #[.string (st t)] 9))).trans (Nx.refl _ _) (Bf.grown r3 fun g e => .inl (.inr (.inr e)))) (.inl rfl)
  have k3 := h.out.bk.c 3 _ rfl
  have hq : w'.heap[b]? = (w.alloc (.cells #[.string (st t)] 9)).heap[b]? := r3.block b H1.out.bk.lt (fun e => h.out.hv e.symm)
  have B2 := H1.out.bk.same hq
  have k4 := B2.c 3 _ rfl
  have kf := B2.f
  obtain ⟨a2, n2, c2, rfl⟩ := owns_sliceS h.out.rh
  obtain ⟨T, hT⟩ : ∃ T, st t = T := ⟨_, rfl⟩
  rw [hT] at HS r1 ⊢
  clear r2 r3 r4 H1 h hT B2 hq
  go_enter Tryd.func58, Tryd.ntmps58
  go_wp2_with fail
  refine Calls.mono HS.out ?_
  rintro e w1 ⟨rfl, rfl⟩
  clear HS
  go_wp2_with (first | (at_builtin; refine Go.Lib.wpList_append_run _ rfl _ _ _ _ rfl _ _ rfl rfl _ _ r1 ?_))
  go_end0
  exact ⟨rfl, _, E2.out⟩
/-- The next epoch. -/
theorem Es.turn {w : World} {b q ep most : Nat} {va vh : Value} {ah he : List Bs} (h : Es w b q ep most va vh ah he) (k : Nat) :
    Es (((w.setCell ⟨b, 2, none⟩ vh).setCell ⟨b, 3, none⟩ (.slice none 0 0)).setCell ⟨b, 1, none⟩ (.int .i64 (k : Int))) b q k most vh (.slice none 0 0) he [] := by
  have B1 := ((h.bk.set 2 (show 2 < 5 by decide) vh).set 3 (show 3 < 5 by decide) (.slice none 0 0)).set 1 (show 1 < 5 by decide) (.int .i64 (k : Int))
  refine ⟨B1, ownsRow_same h.rh (fun x e => ?_), owns_nilS _, h.hv, (fun c => by cases c), fun g _ c => by cases c⟩
  have nx : ∀ o, x ≠ (⟨b, o, none⟩ : Addr).block := fun o c => h.hv (by rw [e, c])
  rw [Below.heap_setCell _ ⟨b, 1, none⟩ _ x (nx 1), Below.heap_setCell _ ⟨b, 3, none⟩ _ x (nx 3), Below.heap_setCell _ ⟨b, 2, none⟩ _ x (nx 2)]
set_option maxHeartbeats 1000000 in
theorem eturn_any (b q ep most : Nat) (va vh : Value) (ah he : List Bs) (hep : ep + 1 ≤ 2147483647) (w : World) (h : Hid (Es w b q ep most va vh ah he)) :
    Calls Tryd.prog 59 #[.pointer (some ⟨b, 1, none⟩), .int .i64 ((ep + 1 : Nat) : Int)] w fun e w' => e = .returned (.bool true) ∧ Es w' b q (ep + 1) most vh (.slice none 0 0) he [] ∧ Bf (EFt b va vh) w w' ∧ Nx w (EFt b va vh) (EFt b vh (.slice none 0 0)) := by
  have k1 := h.out.bk.c 1 _ rfl
  have k2 := h.out.bk.c 2 _ rfl
  have k3 := h.out.bk.c 3 _ rfl
  have kf := h.out.bk.f
  have E2 : Hid (Es (((w.setCell ⟨b, 2, none⟩ vh).setCell ⟨b, 3, none⟩ (.slice none 0 0)).setCell ⟨b, 1, none⟩ (.int .i64 ((ep + 1 : Nat) : Int))) b q (ep + 1) most vh (.slice none 0 0) he [] ∧ Bf (EFt b va vh) w (((w.setCell ⟨b, 2, none⟩ vh).setCell ⟨b, 3, none⟩ (.slice none 0 0)).setCell ⟨b, 1, none⟩ (.int .i64 ((ep + 1 : Nat) : Int))) ∧ Nx w (EFt b va vh) (EFt b vh (.slice none 0 0))) :=
    ⟨h.out.turn (ep + 1), bf_set (bf_set (bf_set (Bf.refl _ _) (.inl rfl)) (.inl rfl)) (.inl rfl), fun x hx => by
      rcases hx with e | e | e
      · exact .inl (.inl e)
      · exact .inl (.inr (.inr e))
      · cases e⟩
  obtain ⟨a1, n1, c1, rfl⟩ := owns_sliceS h.out.ra
  obtain ⟨a2, n2, c2, rfl⟩ := owns_sliceS h.out.rh
  have g1 : ¬ ((ep + 1 : Nat) : Int) < (ep : Int) := by omega
  have g2 : ((ep + 1 : Nat) : Int) - (ep : Int) = 1 := by have := hep; omega
  have g3 : ¬ (2147483647 : Int) < ((ep + 1 : Nat) : Int) := by have := hep; omega
  obtain ⟨z, hz⟩ : ∃ z : Int, ((ep + 1 : Nat) : Int) = z := ⟨_, rfl⟩
  rw [hz] at g1 g2 g3 E2 ⊢
  clear h hz
  go_enter Tryd.func59, Tryd.ntmps59
  go_wp2
  go_ret
  exact ⟨rfl, E2.out⟩
set_option maxHeartbeats 1000000 in
theorem etakeT_any (b q ep most : Nat) (va vh : Value) (ah he : List Bs) (h1 : ah.length ≤ 100000) (h2 : he.length ≤ 100000) (t : Bs) (ht : t.length = 16) (hm : t ∉ ah ++ he) (w : World) (h : Hid (Es w b q ep most va vh ah he)) :
    Calls Tryd.prog 38 #[.pointer (some ⟨b, 1, none⟩), .string (st (84 :: t))] w fun e w' => e = .returned (.bool true) ∧ ∃ v', Es w' b q ep most va v' ah (he ++ [t]) ∧ Bf (EFt b va vh) w w' ∧ Nx w (EFt b va vh) (EFt b va v') := by
  have C1 : Hid _ := scut_any 84 84 t (by omega) w
  rw [if_pos rfl, decide_eq_true rfl] at C1
  have A1 : Hid _ := eadd_any b q ep most va vh ah he h1 h2 t hm w h
  have hs : (st t).size = 16 := by rw [st_size, ht]
  obtain ⟨T, hT⟩ : ∃ T, st t = T := ⟨_, rfl⟩
  obtain ⟨S, hS⟩ : ∃ S, st (84 :: t) = S := ⟨_, rfl⟩
  rw [hT] at C1 A1 hs
  rw [hS] at C1 ⊢
  clear hT hS h hm
  go_enter Tryd.func38, Tryd.ntmps38
  go_wp2_with fail
  refine Calls.mono C1.out ?_
  rintro e w1 ⟨rfl, rfl⟩
  clear C1
  go_wp2_with fail
  refine Calls.mono A1.out ?_
  rintro e w2 ⟨rfl, E2⟩
  have FF : Hid _ := E2
  clear A1 E2
  go_wp2
  go_ret
  exact ⟨rfl, FF.out⟩
set_option maxHeartbeats 1000000 in
theorem etakeE_any (b q ep most : Nat) (va vh : Value) (ah he : List Bs) (hep : ep + 1 ≤ 2147483647) (w : World) (h : Hid (Es w b q ep most va vh ah he)) :
    Calls Tryd.prog 38 #[.pointer (some ⟨b, 1, none⟩), .string (st (69 :: ben (ep + 1) 4))] w fun e w' => e = .returned (.bool true) ∧ Es w' b q (ep + 1) most vh (.slice none 0 0) he [] ∧ Bf (EFt b va vh) w w' ∧ Nx w (EFt b va vh) (EFt b vh (.slice none 0 0)) := by
  have hl : (ben (ep + 1) 4).length = 4 := ben_len _ _
  have C1 : Hid _ := scut_any 69 84 (ben (ep + 1) 4) (by omega) w
  rw [if_neg (by decide), decide_eq_false (by decide)] at C1
  have C2 : Hid _ := scut_any 69 69 (ben (ep + 1) 4) (by omega) w
  rw [if_pos rfl, decide_eq_true rfl] at C2
  have N1 : Hid (Calls Tryd.prog 60 #[.string (st (ben (ep + 1) 4))] w fun e w' => e = .returned (.int .i64 (nm (ben (ep + 1) 4) : Int)) ∧ w' = w) := snumber_any (ben (ep + 1) 4) hl w
  rw [nm_ben4 (by omega)] at N1
  have A1 : Hid _ := eturn_any b q ep most va vh ah he (by omega) w h
  have hs : (st (ben (ep + 1) 4)).size = 4 := by rw [st_size, hl]
  obtain ⟨T, hT⟩ : ∃ T, st (ben (ep + 1) 4) = T := ⟨_, rfl⟩
  obtain ⟨S, hS⟩ : ∃ S, st (69 :: ben (ep + 1) 4) = S := ⟨_, rfl⟩
  obtain ⟨z, hz⟩ : ∃ z : Int, ((ep + 1 : Nat) : Int) = z := ⟨_, rfl⟩
  rw [hT] at C2 N1 hs
  rw [hz] at N1 A1
  rw [hS] at C1 C2 ⊢
  clear hT hS h hz hl hep
  go_enter Tryd.func38, Tryd.ntmps38
  go_wp2_with fail
  refine Calls.mono C1.out ?_
  rintro e w1 ⟨rfl, rfl⟩
  clear C1
  go_wp2_with fail
  refine Calls.mono C2.out ?_
  rintro e w1 ⟨rfl, rfl⟩
  clear C2
  go_wp2_with fail
  refine Calls.mono N1.out ?_
  rintro e w1 ⟨rfl, rfl⟩
  clear N1
  go_wp2_with fail
  refine Calls.mono A1.out ?_
  rintro e w2 ⟨rfl, E2⟩
  have FF : Hid _ := E2
  clear A1 E2
  go_wp2
  go_ret
  exact ⟨rfl, FF.out⟩
end Go.Proofs.YtdcimnmebgkmjaaDoor

/- A set's tags, told. -/
namespace Go.Proofs.YtdcimnmebgkmjaaDoor
open Go.RowKit Go.Proofs.Fd Go.Proofs.Dk Go.Proofs.Lg
set_option maxRecDepth 20000

set_option maxHeartbeats 1000000 in
theorem sgrow_nil (n : Nat) (h0 : 0 < n) (hb : n * 16 ≤ 140737488355328) (w : World) :
    Calls Tryd.prog 80 #[.slice none 0 0, .int .i64 (n : Int)] w fun e w' => ∃ v, e = .returned v ∧ w'.ownsRow w.heap.size 9 1 v 0 [] ∧ Below w.heap.size w w' := by
  obtain ⟨i0, hi, hz0, hz1, hz2⟩ := info_parts infoS
  have hr : ∀ ty, (Builtin.append_ #[22, 3] ty #[.slice none 0 0, .int .i64 (n : Int)]).run Tryd.prog w = .ok (.slice (some ⟨w.heap.size, 0, none⟩) n (grownCap w n 0 9)) (w.drew.alloc (.cells (([] : List Value).toArray ++ Builtin.zeroCells (Value.string ⟨#[]⟩).cells n ++ Builtin.zeroCells (Value.string ⟨#[]⟩).cells (grownCap w n 0 9 - n)) 9)) := fun ty => by
    have h := Go.Lib.run_append_grow_zeros w 22 3 ty 9 i0 (.string ⟨#[]⟩) .i64 .i64 Tryd.underlying22 Tryd.underlying3 hi hz0 none 0 0 [] (run_firstCells_none w.drew _ 0 0 0) n h0 (by rw [hz1]; decide) (by omega) (by omega) (by rw [hz2]; omega) (by rw [hz2, Nat.zero_add]; exact growslice_fits h0 hb)
    rw [Nat.zero_add] at h
    exact h
  have OW : Hid ((w.drew.alloc (.cells (([] : List Value).toArray ++ Builtin.zeroCells (Value.string ⟨#[]⟩).cells n ++ Builtin.zeroCells (Value.string ⟨#[]⟩).cells (grownCap w n 0 9 - n)) 9)).ownsRow w.heap.size 9 1 (.slice (some ⟨w.heap.size, 0, none⟩) 0 (grownCap w n 0 9)) 0 [] ∧ Below w.heap.size w (w.drew.alloc (.cells (([] : List Value).toArray ++ Builtin.zeroCells (Value.string ⟨#[]⟩).cells n ++ Builtin.zeroCells (Value.string ⟨#[]⟩).cells (grownCap w n 0 9 - n)) 9))) := by
    refine ⟨World.ownsRow_made w.drew _ _ (Nat.le_refl _) (grownCap_le_maxLen w n 0 _ (by unfold maxLen; omega)) ?_, (Below.refl _ _).drew.alloc (Nat.le_refl _) _⟩
    have := grownCap_ge w n 0 9
    rw [Array.size_append, Array.size_append, size_zeroCells, size_zeroCells]
    show 0 + n * 1 + (grownCap w n 0 9 - n) * 1 = grownCap w n 0 9 * 1
    omega
  have hG : n ≤ grownCap w n 0 9 := grownCap_ge w _ _ _
  have hG63 : grownCap w n 0 9 ≤ 9223372036854775807 := by
    have := grownCap_le_maxLen w n 0 9 (by unfold maxLen; omega)
    unfold maxLen at this
    omega
  generalize grownCap w n 0 9 = G at *
  generalize w.drew.alloc (.cells (([] : List Value).toArray ++ Builtin.zeroCells (Value.string ⟨#[]⟩).cells n ++ Builtin.zeroCells (Value.string ⟨#[]⟩).cells (G - n)) 9) = W at *
  have g1 : ¬ ((n : Int) < 0) := by omega
  have g2 : (0 : Int) < (n : Int) := by omega
  go_enter Tryd.func80, Tryd.ntmps80
  go_wp2_with (at_builtin; refine Go.Lib.wpList_append_run _ rfl _ _ _ _ rfl _ _ rfl rfl _ _ (hr _) ?_)
  all_goals
    go_ret
    exact ⟨_, rfl, OW.out⟩
theorem sgrow_any (n : Nat) (hb : n ≤ 1000000) (w : World) :
    Calls Tryd.prog 80 #[.slice none 0 0, .int .i64 (n : Int)] w fun e w' => ∃ v, e = .returned v ∧ w'.ownsRow w.heap.size 9 1 v 0 [] ∧ Below w.heap.size w w' := by
  by_cases h0 : 0 < n
  · exact sgrow_nil n h0 (by omega) w
  · obtain rfl : n = 0 := by omega
    clear h0 hb
    go_enter Tryd.func80, Tryd.ntmps80
    go_wp2
    go_ret
    exact ⟨_, rfl, World.ownsRow_nil _ _ _ _, Below.refl _ _⟩
theorem owns_low {w : World} {base base' : Nat} {e : TypeId} {size n : Nat} {v : Value} {xs : List Value} (h : w.ownsRow base e size v n xs) (hb : base' ≤ base) : w.ownsRow base' e size v n xs := by
  refine ⟨h.1, ?_⟩
  rcases h.2 with h2 | ⟨g, cap, cur, rfl, hg, hh⟩
  · exact .inl h2
  · exact .inr ⟨g, cap, cur, rfl, Nat.le_trans hb hg, hh⟩
/-- A list of texts appended to a row of the call's own. -/
theorem app_tx (base : Nat) (w : World) (ty : TypeId) (v : Value) (xs : List Bs) (h : w.ownsRow base 9 1 v xs.length (scs xs)) (hbase : base ≤ w.heap.size) (a : Option Addr) (n c : Nat) (l : List Bs) (hn : l.length = n) (hx : xs.length ≤ 1000000) (hl : n ≤ 1000000) (tx : TxAt w a l) :
    ∃ v' w', (Builtin.append_ #[22, 22] ty #[v, .slice a n c]).run Tryd.prog w = .ok v' w' ∧ w'.ownsRow base 9 1 v' (xs ++ l).length (scs (xs ++ l)) ∧ w.grownBy w' v.ownBlock := by
  obtain ⟨i0, hi, hz0, hz1, hz2⟩ := info_parts infoS
  cases a with
  | none =>
    have h0 : l = [] := by
      cases l with
      | nil => rfl
      | cons k r => obtain ⟨b, o, e, -⟩ := tx 0 (by simp); cases e
    subst h0
    have hn0 : n = 0 := hn.symm
    subst hn0
    refine ⟨v, w, ?_, by rw [List.append_nil]; exact h, World.grownBy.refl _ _⟩
    rcases h.2 with ⟨rfl, hh⟩ | ⟨g, c2, cur, rfl, _, _, hnc, _⟩
    · simp [Builtin.append_, run_underlying Tryd.underlying22, sizeOf, typeInfo, hi, Builtin.lenOf, Builtin.firstCells]
    · simp [Builtin.append_, run_underlying Tryd.underlying22, sizeOf, typeInfo, hi, Builtin.lenOf, Builtin.firstCells, hnc, storeCells]
  | some ad =>
    obtain ⟨v', w', r1, r2, r3, -, -⟩ := run_append_own_at (P := Tryd.prog) w base 22 ty 9 i0 _ 1 16 Tryd.underlying22 hi hz0 hz1 hz2 rfl (by decide) v xs.length (scs xs) h ad n c (scs l) (by rw [scs_len, hn, Nat.mul_one]) (fun j u hj => by
      have hj' : j < l.length := by
        have := (List.getElem?_eq_some_iff.1 hj).1
        simpa [scs] using this
      obtain ⟨b, o, e, hc⟩ := tx j hj'
      obtain rfl := Option.some.inj e
      rw [Addr.add_mid, hc]
      simp [scs, hj'] at hj
      rw [hj]) (scs_one l) (by unfold maxLen; omega) (by omega) hbase
    refine ⟨v', w', r1, ?_, r3⟩
    rw [scs_app, List.length_append, hn]
    exact r2
set_option maxHeartbeats 2000000 in
theorem sconcat_any (B : Nat) (a1 a2 : Option Addr) (n1 n2 c1 c2 : Nat) (l1 l2 : List Bs) (hn1 : l1.length = n1) (hn2 : l2.length = n2) (hb1 : n1 ≤ 100000) (hb2 : n2 ≤ 100000) (w : World)
    (k0 : Hid (w.cell? ⟨B, 0, none⟩ = some (.slice a1 n1 c1))) (k1 : Hid (w.cell? ⟨B, 1, none⟩ = some (.slice a2 n2 c2))) (t1 : Hid (TxAt w a1 l1)) (t2 : Hid (TxAt w a2 l2)) :
    Calls Tryd.prog 63 #[.slice (some ⟨B, 0, none⟩) 2 2] w fun e w' => ∃ a c, e = .returned (.slice a (n1 + n2) c) ∧ TxAt w' a (l1 ++ l2) ∧ Below w.heap.size w w' := by
  have H1 : Hid (l1.length = n1) := hn1
  have H2 : Hid (l2.length = n2) := hn2
  clear hn1 hn2
  go_enter Tryd.func63, Tryd.ntmps63
  go_wp2
  go_loopw [3, 11] (fun sz i wr => ∃ k : Nat, (k = 0 ∧ sz = .int .i64 0 ∨ k = 1 ∧ sz = .int .i64 (n1 : Int) ∨ k = 2 ∧ sz = .int .i64 ((n1 + n2 : Nat) : Int)) ∧ i = .int .i64 (k : Int) ∧ w = wr) (fun _ i _ => 2 - (intOf i).toNat)
  case atStart => exact ⟨0, .inl ⟨rfl, rfl⟩, rfl, rfl⟩
  case round =>
    obtain ⟨k, hk, rfl, rfl⟩ := hrel
    rcases hk with ⟨rfl, rfl⟩ | ⟨rfl, rfl⟩ | ⟨rfl, rfl⟩
    · have cc := k0.out
      have g1 : ¬ ((n1 : Int) < 0) := by omega
      go_wp2
      go_roundw
      case rel => exact ⟨1, .inr (.inl ⟨rfl, by go_num⟩), by go_num, trivial⟩
      case measure => simp [intOf]
    · have cc := k1.out
      have e1 : IntKind.i64.wrap ((n1 : Int) + (n2 : Int)) = ((n1 + n2 : Nat) : Int) := by rw [IntKind.wrap_i64]; omega
      have g1 : ¬ (((n1 + n2 : Nat) : Int) < 0) := by omega
      go_wp2
      go_roundw
      case rel => exact ⟨2, .inr (.inr ⟨rfl, by go_num⟩), by go_num, trivial⟩
      case measure => simp [intOf]
    · go_wp2_with fail
      refine Calls.mono (sgrow_any (n1 + n2) (by omega) _) ?_
      rintro e w1 ⟨v1, rfl, ow, hb1⟩
      have OW : Hid (w1.ownsRow w.heap.size 9 1 v1 ([] : List Bs).length (scs []) ∧ Below w.heap.size w w1) := ⟨ow, hb1⟩
      clear ow hb1
      go_wp2
      go_loopw [6, 27] (fun sl i wx => ∃ (k : Nat) (xs : List Bs), k ≤ 2 ∧ i = .int .i64 (k : Int) ∧ (k = 0 ∧ xs = [] ∨ k = 1 ∧ xs = l1 ∨ k = 2 ∧ xs = l1 ++ l2) ∧ Hid (wx.ownsRow w.heap.size 9 1 sl xs.length (scs xs) ∧ Below w.heap.size w wx)) (fun _ i _ => 2 - (intOf i).toNat)
      case atStart => exact ⟨0, [], by omega, rfl, .inl ⟨rfl, rfl⟩, OW.out⟩
      case round =>
        obtain ⟨k, xs, hk2, rfl, hx, J⟩ := hrel
        clear OW
        rcases hx with ⟨rfl, rfl⟩ | ⟨rfl, rfl⟩ | ⟨rfl, rfl⟩
        · have cc := cell_later J.out.2 k0.out
          obtain ⟨v2, w2, r1, r2, r3⟩ := app_tx w.heap.size wr 22 u6 [] J.out.1 J.out.2.size a1 n1 c1 l1 H1.out (by simp) (by omega) (t1.out.later J.out.2)
          have K : Hid (w2.ownsRow w.heap.size 9 1 v2 l1.length (scs l1) ∧ Below w.heap.size w w2) := ⟨by rw [List.nil_append] at r2; exact r2, J.out.2.grown r3 J.out.2.size (fun q hq => (J.out.1.lt q hq).1)⟩
          clear r2 r3 J
          go_wp2_with (first | (at_builtin; refine Go.Lib.wpList_append_run _ rfl _ _ _ _ rfl _ _ rfl rfl _ _ r1 ?_))
          go_roundw
          case rel => exact ⟨1, l1, by omega, by go_num, .inr (.inl ⟨rfl, rfl⟩), K.out⟩
          case measure => simp [intOf]
        · have cc := cell_later J.out.2 k1.out
          obtain ⟨v2, w2, r1, r2, r3⟩ := app_tx w.heap.size wr 22 u6 xs J.out.1 J.out.2.size a2 n2 c2 l2 H2.out (by have := H1.out; omega) (by omega) (t2.out.later J.out.2)
          have K : Hid (w2.ownsRow w.heap.size 9 1 v2 (xs ++ l2).length (scs (xs ++ l2)) ∧ Below w.heap.size w w2) := ⟨r2, J.out.2.grown r3 J.out.2.size (fun q hq => (J.out.1.lt q hq).1)⟩
          clear r2 r3 J
          go_wp2_with (first | (at_builtin; refine Go.Lib.wpList_append_run _ rfl _ _ _ _ rfl _ _ rfl rfl _ _ r1 ?_))
          go_roundw
          case rel => exact ⟨2, xs ++ l2, by omega, by go_num, .inr (.inr ⟨rfl, rfl⟩), K.out⟩
          case measure => simp [intOf]
        · have e12 : (l1 ++ l2).length = n1 + n2 := by rw [List.length_append, H1.out, H2.out]
          have J1 := J.out.1
          rw [e12] at J1
          obtain ⟨a, cp, rfl, tx, -⟩ := owns_tx e12 J1
          have FF : Hid (TxAt wr a (l1 ++ l2) ∧ Below w.heap.size w wr) := ⟨tx, J.out.2⟩
          clear tx J J1
          go_wp2
          go_ret
          exact ⟨a, cp, rfl, FF.out⟩
set_option maxHeartbeats 2000000 in
theorem eall_any (b q ep most : Nat) (va vh : Value) (ah he : List Bs) (h1 : ah.length ≤ 100000) (h2 : he.length ≤ 100000) (ht : ∀ t ∈ ah ++ he, t.length ≤ 2000) (w : World) (h : Hid (Es w b q ep most va vh ah he)) :
    Calls Tryd.prog 44 #[.pointer (some ⟨b, 1, none⟩)] w fun e w' => ∃ u, e = .returned u ∧ w'.ownsRow w.heap.size 9 1 u (ah ++ he).length (scs (ah ++ he)) ∧ Below w.heap.size w w' := by
  obtain ⟨i0, hi, hz0, hz1, hz2⟩ := info_parts infoS
  obtain ⟨a1, c1, rfl, t1, -⟩ := owns_tx rfl h.out.ra
  obtain ⟨a2, c2, rfl, t2, -⟩ := owns_tx rfl h.out.rh
  have k2 := h.out.bk.c 2 _ rfl
  have k3 := h.out.bk.c 3 _ rfl
  have CC : Hid (∀ W : World, Below w.heap.size w W → ∀ B, W.cell? ⟨B, 0, none⟩ = some (.slice a1 ah.length c1) → W.cell? ⟨B, 1, none⟩ = some (.slice a2 he.length c2) → Calls Tryd.prog 63 #[.slice (some ⟨B, 0, none⟩) 2 2] W fun e w' => ∃ a c, e = .returned (.slice a (ah.length + he.length) c) ∧ TxAt w' a (ah ++ he) ∧ Below w.heap.size w w') := fun W hW B x0 x1 =>
    (sconcat_any B a1 a2 ah.length he.length c1 c2 ah he rfl rfl h1 h2 W x0 x1 (t1.later hW) (t2.later hW)).mono fun _ _ ⟨a, c, y1, y2, y3⟩ => ⟨a, c, y1, y2, chain hW y3⟩
  have HT : Hid (∀ t ∈ ah ++ he, t.length ≤ 2000) := ht
  have e12 : (ah ++ he).length = ah.length + he.length := List.length_append
  obtain ⟨l, hl⟩ : ∃ l, ah ++ he = l := ⟨_, rfl⟩
  obtain ⟨n1, hn1⟩ : ∃ n, ah.length = n := ⟨_, rfl⟩
  obtain ⟨n2, hn2⟩ : ∃ n, he.length = n := ⟨_, rfl⟩
  rw [hl] at CC HT e12 ⊢
  rw [hn1] at CC k2 h1 e12
  rw [hn2] at CC k3 h2 e12
  have HN : Hid (l.length = n1 + n2) := e12
  rw [e12]
  clear ht t1 t2 h hl hn1 hn2 e12
  obtain ⟨n, hn⟩ : ∃ n, n1 + n2 = n := ⟨_, rfl⟩
  have hnb : n ≤ 200000 := by omega
  rw [hn] at HN CC ⊢
  clear hn
  go_enter Tryd.func44, Tryd.ntmps44
  go_wp2_with fail
  go_region_held3 (fun w' => w'.cell? ⟨b, 2, none⟩ = some (.slice a1 n1 c1) ∧ w'.cell? ⟨b, 3, none⟩ = some (.slice a2 n2 c2)) (first | exact ⟨k2, k3⟩ | assumption | exact ⟨cell_later (nb _ _).drew k2, cell_later (nb _ _).drew k3⟩ | exact ⟨cell_later (by assumption) k2, cell_later (by assumption) k3⟩) (first | (go_at_call 63; refine Calls.mono (CC.out _ ((Below.refl _ _).drew.alloc (by simp) _) _ (by simp [go_sem]) (by simp [go_sem])) ?_; rintro e w1 ⟨a, c, rfl, tx1, bw1⟩))
  all_goals
    have TX : Hid (TxAt w1 a l) := tx1
    have BW : Hid (Below w.heap.size w w1) := bw1
    clear tx1 bw1 CC k2 k3
    go_wp2
    go_loopw [3, 17] (fun sl i wr => ∃ k : Nat, k ≤ n ∧ i = .int .i64 (k : Int) ∧ Hid (wr.ownsRow w1.heap.size 9 1 sl k (scs (l.take k)) ∧ Below w1.heap.size w1 wr)) (fun _ i _ => n - (intOf i).toNat)
    case atStart => exact ⟨0, Nat.zero_le _, rfl, ⟨rfl, .inl ⟨rfl, rfl⟩⟩, Below.refl _ _⟩
    case round =>
      obtain ⟨k, hk, rfl, J⟩ := hrel
      by_cases hlt : k < n
      · have hkl : k < l.length := by rw [HN.out]; exact hlt
        have g1 : (k : Int) < (n : Int) := by omega
        obtain ⟨b3, o, rfl, c0⟩ := (TX.out.later J.out.2) k hkl
        have ET : Hid (l.take (k + 1) = l.take k ++ [l[k]]) := List.take_succ_eq_append_getElem hkl
        have hl := HT.out _ (List.getElem_mem hkl)
        obtain ⟨t, htt⟩ : ∃ t, l[k] = t := ⟨_, rfl⟩
        rw [htt] at c0 ET hl
        have CL : Hid (∀ w, Calls Tryd.prog 36 #[.string (st t)] w fun e w' => e = .returned (.string (st t)) ∧ Below w.heap.size w w') := fun w => sclone_any (st t) (by rw [st_size]; omega) w
        have HSV : Hid (Value.string (st t) = sv t) := (rfl : Value.string (st t) = sv t)
        unfold sv at c0
        obtain ⟨T, hT⟩ : ∃ T, st t = T := ⟨_, rfl⟩
        rw [hT] at c0 CL HSV
        clear htt hT
        go_wp2_with fail
        refine Calls.mono (CL.out _) ?_
        rintro e w2 ⟨rfl, hb⟩
        have J1 : Hid (w2.ownsRow w1.heap.size 9 1 u3 k (scs (l.take k)) ∧ Below w1.heap.size w1 w2) := ⟨owns_laterS J.out.1 hb, chain J.out.2 hb⟩
        clear hb J CL c0 TX BW
        go_wp2_with (first
          | (at_builtin; refine wpList_append_own _ rfl _ _ 22 rfl w1.heap.size 9 i0 (.string ⟨#[]⟩) 1 16 Tryd.underlying22 hi hz0 hz1 hz2 rfl (by decide) _ _ _ rfl (J1.out.1.alloc _) ⟨w2.heap.size, 0, none⟩ 1 1 [.string T] rfl rfl (one_new _ _ _) (by intro u hu; simp at hu; subst hu; rfl) (by unfold maxLen; omega) (by omega) (by have := J1.out.2.size; simp; omega) ?_; intro v1 w3 hown1 hgrow1 hnil1))
        go_roundw
        case rel =>
          refine ⟨k + 1, by omega, rfl, ?_, ?_⟩
          · rw [ET.out, scs_app]
            rw [HSV.out] at hown1
            exact hown1
          · exact (J1.out.2.alloc J1.out.2.size _).grown hgrow1 (by have := J1.out.2.size; simp; omega) (fun q hq => (J1.out.1.lt q hq).1)
        case measure => simp [intOf]; omega
      · obtain rfl : k = n := by omega
        have J2 : Hid (wr.ownsRow w.heap.size 9 1 u3 k (scs l) ∧ Below w.heap.size w wr) := by
          have := J.out
          rw [List.take_of_length_le (by rw [HN.out]; exact Nat.le_refl _)] at this
          exact ⟨owns_low this.1 BW.out.size, chain BW.out this.2⟩
        clear J TX BW
        go_wp2
        go_ret
        exact ⟨u3, rfl, J2.out.1, J2.out.2⟩
set_option maxHeartbeats 1000000 in
theorem stags_any (b q ep most : Nat) (va vh : Value) (ah he : List Bs) (h1 : ah.length ≤ 100000) (h2 : he.length ≤ 100000) (ht : ∀ t ∈ ah ++ he, t.length ≤ 2000) (w : World) (h : Hid (Es w b q ep most va vh ah he)) :
    Calls Tryd.prog 26 #[.pointer (some ⟨b, 0, none⟩)] w fun e w' => ∃ a c, e = .returned (.slice a (ah ++ he).length c) ∧ TxAt w' a (ah ++ he) ∧ Below w.heap.size w w' := by
  have AL : Hid _ := eall_any b q ep most va vh ah he h1 h2 ht w h
  have k0 := h.out.bk.c 0 _ rfl
  obtain ⟨l, hl⟩ : ∃ l, ah ++ he = l := ⟨_, rfl⟩
  obtain ⟨n, hn⟩ : ∃ n, l.length = n := ⟨_, rfl⟩
  rw [hl, hn] at AL
  rw [hl, hn]
  have HN : Hid (l.length = n) := hn
  clear hl hn h ht h1 h2
  go_enter Tryd.func26, Tryd.ntmps26
  go_wp2_with fail
  refine Calls.mono AL.out ?_
  rintro e w1 ⟨u, rfl, ow, hb⟩
  obtain ⟨a, c, rfl, tx, -⟩ := owns_tx HN.out ow
  have FF : Hid (TxAt w1 a l ∧ Below w.heap.size w w1) := ⟨tx, hb⟩
  clear ow tx hb AL
  go_wp2
  go_ret
  exact ⟨a, c, rfl, FF.out⟩
end Go.Proofs.YtdcimnmebgkmjaaDoor

/- Sets on a disk that is up and has no fuse. -/
namespace Go.Proofs.YtdcimnmebgkmjaaDoor
open Go.RowKit Go.Proofs.Fd Go.Proofs.Dk Go.Proofs.Lg
set_option maxRecDepth 20000

/-- A set beside its log. -/
structure Su (w wr : World) (p : Nat) (F : Nat → Prop) (n : Nat) (f : Nat → Bs) (l : List Wt) (q : Nat) (v : Value) (x : Lo) (b ep most : Nat) (va vh : Value) (ah he : List Bs) : Prop where
  lu : Lu w wr p F n f l q v x
  es : Es wr b q ep most va vh ah he
  ap : ∀ y, EFt b va vh y → ¬ FH F q v y ∧ w.heap.size ≤ y
section
variable {w wr : World} {p : Nat} {F : Nat → Prop} {n : Nat} {f : Nat → Bs} {l : List Wt} {q : Nat} {v : Value} {x : Lo} {b ep most : Nat} {va vh : Value} {ah he : List Bs}
theorem Su.later (h : Su w wr p F n f l q v x b ep most va vh ah he) {w' : World} (hb : Below wr.heap.size wr w') : Su w w' p F n f l q v x b ep most va vh ah he := ⟨h.lu.later hb, h.es.later hb, h.ap⟩
theorem Su.log (h : Su w wr p F n f l q v x b ep most va vh ah he) {w' : World} {F' : Nat → Prop} {f' : Nat → Bs} {l' : List Wt} {v' : Value} {x' : Lo} (k : Lu w w' p F' n f' l' q v' x') (nx : Nx wr (FH F q v) (FH F' q v')) (hb : Bf (FH F q v) wr w') : Su w w' p F' n f' l' q v' x' b ep most va vh ah he :=
  ⟨k, h.es.bf hb (fun y hy => (h.ap y hy).1), fun y hy => ⟨nx.apart (h.ap y hy).1 (h.es.lt hy), (h.ap y hy).2⟩⟩
theorem Su.set (h : Su w wr p F n f l q v x b ep most va vh ah he) {w' : World} {ep' : Nat} {va' vh' : Value} {ah' he' : List Bs} (k : Es w' b q ep' most va' vh' ah' he') (hb : Bf (EFt b va vh) wr w') (nx : Nx wr (EFt b va vh) (EFt b va' vh')) : Su w w' p F n f l q v x b ep' most va' vh' ah' he' :=
  ⟨h.lu.other hb (fun y hF c => (h.ap y c).1 hF) (fun y c => (h.ap y c).2), k, fun y hy => by
    rcases nx y hy with e | e
    · exact h.ap y e
    · exact ⟨fun c => Nat.not_lt.2 e (h.lu.fh c).1, Nat.le_trans h.lu.hd_.dl.below.size e⟩⟩
end
/-- A set of the call's own, of so many records of one sector each. -/
def Sx (w wr : World) (b n most k ep : Nat) (ah he : List Bs) : Prop := ∃ p F f l q v x va vh, Su w wr p F n f l q v x b ep most va vh ah he ∧ x.tk ≤ 1 + k
theorem Sx.later {w wr w' : World} {b n most k ep : Nat} {ah he : List Bs} (h : Sx w wr b n most k ep ah he) (hb : Below wr.heap.size wr w') : Sx w w' b n most k ep ah he := by
  obtain ⟨p, F, f, l, q, v, x, va, vh, s, ht⟩ := h
  exact ⟨p, F, f, l, q, v, x, va, vh, s.later hb, ht⟩
theorem Sx.below {w wr : World} {b n most k ep : Nat} {ah he : List Bs} (h : Sx w wr b n most k ep ah he) : Below w.heap.size w wr := by
  obtain ⟨p, F, f, l, q, v, x, va, vh, s, ht⟩ := h
  exact s.lu.hd_.dl.below
theorem Lu.kh {w wr : World} {p : Nat} {F : Nat → Prop} {n : Nat} {f : Nat → Bs} {l : List Wt} {q : Nat} {v : Value} {x : Lo} (h : Lu w wr p F n f l q v x) (hk : Kh w) : Kh wr := hk.later h.hd_.dl.below
set_option maxHeartbeats 1000000 in
/-- A record is written, for good, and taken up. -/
theorem swrite_any (w wr : World) (p : Nat) (F : Nat → Prop) (n : Nat) (f : Nat → Bs) (l : List Wt) (q : Nat) (v : Value) (x : Lo) (b ep most : Nat) (va vh : Value) (ah he : List Bs) (r : Bs) (ep' : Nat) (ah' he' : List Bs) (hr : may r = 0) (hf : x.tk + sn r ≤ n / 2)
    (TK : Hid (∀ W, Es W b q ep most va vh ah he → Calls Tryd.prog 38 #[.pointer (some ⟨b, 1, none⟩), .string (st r)] W fun e w' => e = .returned (.bool true) ∧ ∃ va' vh', Es w' b q ep' most va' vh' ah' he' ∧ Bf (EFt b va vh) W w' ∧ Nx W (EFt b va vh) (EFt b va' vh')))
    (hk : Hid (Kh w)) (h : Hid (Su w wr p F n f l q v x b ep most va vh ah he)) :
    Calls Tryd.prog 39 #[.pointer (some ⟨b, 0, none⟩), .string (st r)] wr fun e w' => e = .returned (.int .i64 0) ∧ ∃ F' f' l' v' va' vh', Su w w' p F' n f' l' q v' { x with ts := x.ts ++ [r] } b ep' most va' vh' ah' he' := by
  have A1 : Hid (Calls Tryd.prog 11 #[.pointer (some ⟨q, 0, none⟩), .string (st r)] wr fun e w' => e = .returned (.int .i64 0) ∧ ∃ F' f' l' v', Su w w' p F' n f' l' q v' { x with ts := x.ts ++ [r] } b ep most va vh ah he) :=
    (appendE w wr p F n f l q v x (st r) hr hf hk.out h.out.lu).mono fun _ _ ⟨e1, F', v', L1, N1, B1⟩ => ⟨e1, F', _, _, v', h.out.log L1 N1.fh B1⟩
  have S1 : Hid (∀ W F f l v x, Su w W p F n f l q v x b ep most va vh ah he → Calls Tryd.prog 27 #[.pointer (some ⟨q, 0, none⟩)] W fun e w' => e = .returned (.int .i64 0) ∧ ∃ F' f' l', Su w w' p F' n f' l' q v x b ep most va vh ah he) := fun W F f l v x k =>
    (syncE w W p F n f l q v x k.lu).mono fun _ _ ⟨e1, F', L1, N1, B1⟩ => ⟨e1, F', _, _, k.log L1 (FH.left N1) (B1.wide fun _ c => .inl c)⟩
  have k0 := h.out.es.bk.c 0 _ rfl
  obtain ⟨R, hR⟩ : ∃ R, st r = R := ⟨_, rfl⟩
  rw [hR] at TK A1 ⊢
  clear hR hr hf
  go_enter Tryd.func39, Tryd.ntmps39
  go_wp2_with fail
  refine Calls.mono A1.out ?_
  rintro e w1 ⟨rfl, F1, f1, l1, v1, s1⟩
  have J1 : Hid _ := s1
  have k1 := J1.out.es.bk.c 0 _ rfl
  clear s1 A1 h k0
  have S2 : Hid _ := S1.out w1 F1 f1 l1 v1 _ J1.out
  clear S1
  go_wp2_with fail
  refine Calls.mono S2.out ?_
  rintro e w2 ⟨rfl, F2, f2, l2, s2⟩
  have J2 : Hid _ := s2
  have k2 := J2.out.es.bk.c 0 _ rfl
  clear s2 S2 J1 k1
  have T2 : Hid _ := TK.out w2 J2.out.es
  clear TK
  go_wp2_with fail
  refine Calls.mono T2.out ?_
  rintro e w3 ⟨rfl, va3, vh3, E3, B3, N3⟩
  have J3 : Hid _ := J2.out.set E3 B3 N3
  clear E3 B3 N3 J2 k2 T2
  go_wp2
  go_ret
  exact ⟨rfl, F2, f2, l2, v1, va3, vh3, J3.out⟩
set_option maxHeartbeats 1000000 in
theorem sopen_new (w wr : World) (p : Nat) (F : Nat → Prop) (n most : Nat) (hn4 : 4 ≤ n) (hn2 : n ≤ 1024) (hm1 : 1 ≤ most) (hm2 : most ≤ 4096) (hk : Hid (Kh w)) (h : Hid (Dl w wr p F (up n zs []))) :
    Calls Tryd.prog 19 #[.pointer (some ⟨p, 0, none⟩), .int .i64 (most : Int)] wr fun e w' => ∃ b, e = .returned (.tuple #[.pointer (some ⟨b, 0, none⟩), .int .i64 0]) ∧ Sx w w' b n most 0 0 [] [] := by
  have O1 : Hid _ := openU_new w wr p F n hn4 hn2 hk.out h.out
  have g1 : ¬ (most : Int) < 1 := by omega
  have g2 : ¬ (4096 : Int) < (most : Int) := by omega
  clear h hk hm1 hm2
  go_enter Tryd.func19, Tryd.ntmps19
  go_wp2_with fail
  refine Calls.mono O1.out ?_
  rintro e w1 ⟨q, v, F1, rfl, L1, -, -, -⟩
  have E1 : Hid (Es (w1.alloc (.cells #[.pointer (some ⟨q, 0, none⟩), .int .i64 ((0 : Nat) : Int), .slice none 0 0, .slice none 0 0, .int .i64 (most : Int)] 75)) w1.heap.size q 0 most (.slice none 0 0) (.slice none 0 0) [] []) :=
    ⟨Blk.new w1 (stc q 0 (.slice none 0 0) (.slice none 0 0) most) _ (by simp), owns_nilS _, owns_nilS _, (fun c => by cases c), (fun c => by cases c), fun g c => by cases c⟩
  have S1 : Hid (∃ f, Su w (w1.alloc (.cells #[.pointer (some ⟨q, 0, none⟩), .int .i64 ((0 : Nat) : Int), .slice none 0 0, .slice none 0 0, .int .i64 (most : Int)] 75)) p F1 n f [] q v ⟨0, 1, []⟩ w1.heap.size 0 most (.slice none 0 0) (.slice none 0 0) [] []) := by
    refine ⟨_, L1.later (nb _ _), E1.out, fun y hy => ?_⟩
    rcases hy with rfl | e | e
    · exact ⟨fun c => Nat.lt_irrefl _ (L1.fh c).1, L1.hd_.dl.below.size⟩
    · cases e
    · cases e
  clear E1 L1 O1
  obtain ⟨B, hB⟩ : ∃ B, w1.heap.size = B := ⟨_, rfl⟩
  have S2 : Hid (∃ f, Su w (w1.alloc (.cells #[.pointer (some ⟨q, 0, none⟩), .int .i64 0, .slice none 0 0, .slice none 0 0, .int .i64 (most : Int)] 75)) p F1 n f [] q v ⟨0, 1, []⟩ B 0 most (.slice none 0 0) (.slice none 0 0) [] []) := by
    rw [← hB]
    exact S1.out
  have R1 : Hid (Calls Tryd.prog 12 #[.pointer (some ⟨q, 0, none⟩)] (w1.alloc (.cells #[.pointer (some ⟨q, 0, none⟩), .int .i64 0, .slice none 0 0, .slice none 0 0, .int .i64 (most : Int)] 75)) fun e w' => ∃ a c, e = .returned (.slice a 0 c) ∧ Sx w w' B n most 0 0 [] []) := by
    obtain ⟨f, s⟩ := S2.out
    exact (recordsU w _ p F1 n f [] q v ⟨0, 1, []⟩ s.lu).mono fun _ _ ⟨a, c, e1, _, hb⟩ => ⟨a, c, e1, p, F1, f, [], q, v, ⟨0, 1, []⟩, _, _, s.later hb, Nat.le_refl _⟩
  clear S1 S2
  go_wp2_with fail
  refine Calls.mono R1.out ?_
  rintro e w2 ⟨a, c, rfl, s2⟩
  have J2 : Hid _ := s2
  clear s2 R1 hB
  go_wp2
  go_loopw [35] (fun i wr => i = .int .i64 0 ∧ wr = w2) (fun _ _ => 0)
  case atStart => exact ⟨rfl, rfl⟩
  case round =>
    obtain ⟨rfl, rfl⟩ := hrel
    go_wp2
    go_ret2
    exact ⟨B, rfl, J2.out⟩
set_option maxHeartbeats 1000000 in
theorem sadd_ok (w wr : World) (b n most k ep : Nat) (ah he : List Bs) (t : Bs) (ht : t.length = 16) (hm : t ∉ ah ++ he) (hfull : ah.length + he.length < most) (hmost : most ≤ 4096) (hroom : 2 + k ≤ n / 2) (hk : Hid (Kh w)) (h : Hid (Sx w wr b n most k ep ah he)) :
    Calls Tryd.prog 23 #[.pointer (some ⟨b, 0, none⟩), .string (st t)] wr fun e w' => e = .returned (.int .i64 0) ∧ Sx w w' b n most (k + 1) ep ah (he ++ [t]) := by
  have TR : Hid _ := stagr_any t (by omega)
  have hs : (st t).size = 16 := by rw [st_size, ht]
  have sn1 : sn (84 :: t) = 1 := by unfold sn; rw [List.length_cons, ht]
  have mr : may (84 :: t) = 0 := by unfold may; rw [List.length_cons, ht, if_neg (by decide), if_neg (by decide)]
  obtain ⟨p, F, f, l, q, v, x, va, vh, s, hx⟩ := h.out
  have h1 : ah.length ≤ 100000 := by omega
  have h2 : he.length ≤ 100000 := by omega
  have HS : Hid _ := shas_any b q ep most va vh ah he h1 h2 (st t) wr s.es
  rw [st_data, decide_eq_false hm] at HS
  have MN : Hid (∀ W, Below wr.heap.size wr W → Calls Tryd.prog 41 #[.pointer (some ⟨b, 1, none⟩)] W fun e w' => e = .returned (.int .i64 ((ah.length + he.length : Nat) : Int)) ∧ Below wr.heap.size wr w') := fun W hW => (emany_any b q ep most va vh ah he h1 h2 W (s.es.later hW)).mono fun _ _ ⟨e1, hb⟩ => ⟨e1, chain hW hb⟩
  have WR : Hid (∀ W, Below wr.heap.size wr W → Calls Tryd.prog 39 #[.pointer (some ⟨b, 0, none⟩), .string (st (84 :: t))] W fun e w' => e = .returned (.int .i64 0) ∧ Sx w w' b n most (k + 1) ep ah (he ++ [t])) := fun W hW =>
    (swrite_any w W p F n f l q v x b ep most va vh ah he (84 :: t) ep ah (he ++ [t]) mr (by omega) (fun W' es => (etakeT_any b q ep most va vh ah he h1 h2 t ht hm W' es).mono fun _ _ ⟨e1, v', e2⟩ => ⟨e1, va, v', e2⟩) hk (s.later hW)).mono fun _ _ ⟨e1, F', f', l', v', va', vh', s'⟩ => ⟨e1, p, F', f', l', q, v', _, va', vh', s', by
      show tkn 1 (x.ts ++ [84 :: t]) ≤ 1 + (k + 1)
      rw [tkn_app, sn1]
      have : tkn 1 x.ts ≤ 1 + k := hx
      omega⟩
  have k4 := s.es.bk.c 4 _ rfl
  have k0 := s.es.bk.c 0 _ rfl
  obtain ⟨m, hmm⟩ : ∃ m, ah.length + he.length = m := ⟨_, rfl⟩
  rw [hmm] at MN hfull
  have g1 : ¬ (most : Int) ≤ (m : Int) := by omega
  obtain ⟨T, hT⟩ : ∃ T, st t = T := ⟨_, rfl⟩
  obtain ⟨S, hS⟩ : ∃ S, st (84 :: t) = S := ⟨_, rfl⟩
  rw [hT] at TR HS hs ⊢
  rw [hS] at TR WR
  clear hT hS hmm s h hx sn1 mr hm ht
  go_enter Tryd.func23, Tryd.ntmps23
  go_wp2_with fail
  refine Calls.mono HS.out ?_
  rintro e w1 ⟨rfl, rfl⟩
  clear HS
  go_wp2_with fail
  go_region_held3 (fun w' => w'.cell? ⟨b, 4, none⟩ = some (.int .i64 (most : Int)) ∧ Below w1.heap.size w1 w') (first | exact ⟨k4, (Below.refl _ _).drew⟩ | assumption | exact ⟨cell_later (by assumption) k4, by assumption⟩) (first | (go_at_call 41; refine Calls.mono (MN.out _ (by first | assumption | exact (Below.refl _ _).drew)) ?_; rintro e w2 ⟨rfl, hb2⟩))
  have BB : Hid (Below w1.heap.size w1 w2) := hb2
  clear hb2 MN k4
  go_wp2_with fail
  refine Calls.mono (TR.out _) ?_
  rintro e w3 ⟨rfl, rfl⟩
  clear TR
  have W3 : Hid _ := WR.out w3 BB.out
  clear WR
  go_wp2_with fail
  refine Calls.mono W3.out ?_
  rintro e w4 ⟨rfl, s4⟩
  have FF : Hid _ := s4
  clear s4 W3
  go_wp2
  go_ret
  exact ⟨rfl, FF.out⟩
end Go.Proofs.YtdcimnmebgkmjaaDoor
