/- Parts: BpA, BpB. -/
import Derived.Test.YtjpaodepnacimaaGreatDoorZbG23
import Derived.ArgAppend
import Derived.Shelf.Strings.Trim
namespace Go.Proofs.YtjpaodepnacimaaGreatDoor
open Go.RowKit Go.Proofs.Fd Go.Proofs.Dk Go.Proofs.Lg Go.Proofs.Bx
set_option maxRecDepth 20000
def scx : List Sl → List Value
  | [] => []
  | e :: l => sv e.1 :: sv e.2 :: scx l
theorem scx_len : ∀ l : List Sl, (scx l).length = l.length * 2
  | [] => rfl
  | e :: l => by rw [scx, List.length_cons, List.length_cons, scx_len l, List.length_cons]; omega
theorem scx_app : ∀ l m : List Sl, scx (l ++ m) = scx l ++ scx m
  | [], _ => rfl
  | e :: l, m => by rw [List.cons_append, scx, scx_app l m, scx, List.cons_append, List.cons_append]
theorem scx_one : ∀ l : List Sl, ∀ u ∈ scx l, u.oneCell' = true
  | [], _, h => by cases h
  | e :: l, u, h => by
    rcases List.mem_cons.1 h with rfl | h
    · rfl
    · rcases List.mem_cons.1 h with rfl | h
      · rfl
      · exact scx_one l u h
theorem scx_at : ∀ (l : List Sl) (i : Nat) (hi : i < l.length), (scx l)[i * 2]? = some (sv l[i].1) ∧ (scx l)[i * 2 + 1]? = some (sv l[i].2)
  | e :: l, 0, _ => ⟨rfl, rfl⟩
  | e :: l, i + 1, hi => by
    have h := scx_at l i (by simpa using hi)
    rw [scx, show (i + 1) * 2 = i * 2 + 1 + 1 by omega]
    exact h
theorem scx_two (l : List Sl) (j : Nat) (u : Value) (h : (scx l)[j]? = some u) : ∃ i, (∃ hi : i < l.length, j = i * 2 ∧ u = sv l[i].1) ∨ (∃ hi : i < l.length, j = i * 2 + 1 ∧ u = sv l[i].2) := by
  have hj := (List.getElem?_eq_some_iff.1 h).1
  rw [scx_len] at hj
  have hi : j / 2 < l.length := by omega
  obtain ⟨h0, h1⟩ := scx_at l (j / 2) hi
  refine ⟨j / 2, ?_⟩
  rcases (by omega : j = j / 2 * 2 ∨ j = j / 2 * 2 + 1) with e | e
  · refine .inl ⟨hi, e, ?_⟩
    rw [← e, h] at h0
    exact Option.some.inj h0
  · refine .inr ⟨hi, e, ?_⟩
    rw [← e, h] at h1
    exact Option.some.inj h1
def SlAt (w : World) (a : Option Addr) (l : List Sl) : Prop := ∀ i (hi : i < l.length), ∃ b o, a = some ⟨b, o, none⟩ ∧ w.cell? ⟨b, o + i * 2, none⟩ = some (sv l[i].1) ∧ w.cell? ⟨b, o + i * 2 + 1, none⟩ = some (sv l[i].2)
theorem SlAt.later {w w' : World} {a : Option Addr} {l : List Sl} (h : SlAt w a l) (hb : Below w.heap.size w w') : SlAt w' a l := fun i hi => by
  obtain ⟨b, o, e, h0, h1⟩ := h i hi
  exact ⟨b, o, e, cell_later hb h0, cell_later hb h1⟩
theorem SlAt.bf {w w' : World} {a : Option Addr} {l : List Sl} (h : SlAt w a l) {F : Nat → Prop} (hb : Bf F w w') (hF : ∀ x, a = some x → 0 < l.length → ¬ F x.block) : SlAt w' a l := fun i hi => by
  obtain ⟨b, o, e, h0, h1⟩ := h i hi
  have := hF _ e (by omega)
  exact ⟨b, o, e, hb.cell h0 this, hb.cell h1 this⟩
theorem SlAt.nil (w : World) (a : Option Addr) : SlAt w a [] := fun _ hi => absurd hi (Nat.not_lt_zero _)
theorem SlAt.lt {w : World} {a : Option Addr} {l : List Sl} (h : SlAt w a l) : ∀ x, a = some x → 0 < l.length → x.block < w.heap.size := fun x e h0 => by
  obtain ⟨b, o, e', hc, -⟩ := h 0 h0
  rw [e'] at e
  injection e with e
  subst e
  exact World.block_lt_of_cell? _ _ hc
theorem SlAt.cut {w : World} {b o : Nat} {l : List Sl} (h : SlAt w (some ⟨b, o, none⟩) l) (k : Nat) : SlAt w (some ⟨b, o + k * 2, none⟩) (l.drop k) := fun i hi => by
  have hi' : k + i < l.length := by rw [List.length_drop] at hi; omega
  obtain ⟨b', o', e, h0, h1⟩ := h (k + i) hi'
  injection e with e
  injection e with e1 e2
  subst e1 e2
  refine ⟨b, o + k * 2, rfl, ?_, ?_⟩
  · rw [List.getElem_drop, show o + k * 2 + i * 2 = o + (k + i) * 2 by omega]; exact h0
  · rw [List.getElem_drop, show o + k * 2 + i * 2 + 1 = o + (k + i) * 2 + 1 by omega]; exact h1
theorem SlAt.take {w : World} {a : Option Addr} {l : List Sl} (h : SlAt w a l) (k : Nat) : SlAt w a (l.take k) := fun i hi => by
  have hi' : i < l.length := by rw [List.length_take] at hi; omega
  obtain ⟨b, o, e, h0, h1⟩ := h i hi'
  rw [List.getElem_take]
  exact ⟨b, o, e, h0, h1⟩
theorem SlAt.cells {w : World} {a : Addr} {l : List Sl} (h : SlAt w (some a) l) : ∀ j u, (scx l)[j]? = some u → w.cell? (a.add j) = some u := fun j u hj => by
  obtain ⟨i, hi⟩ := scx_two l j u hj
  rcases hi with ⟨hi, rfl, rfl⟩ | ⟨hi, rfl, rfl⟩
  · obtain ⟨b, o, e, h0, -⟩ := h i hi
    obtain rfl := Option.some.inj e
    rw [Addr.add_mid]
    exact h0
  · obtain ⟨b, o, e, -, h1⟩ := h i hi
    obtain rfl := Option.some.inj e
    rw [Addr.add_mid, ← Nat.add_assoc]
    exact h1
theorem infoX : (Tryz.prog.info? 58).map (fun i => (i.zero, i.size, i.bytes)) = some (some (.agg #[.string ⟨#[]⟩, .string ⟨#[]⟩]), 2, 32) := by kernel_rfl
structure Sli (w : World) (a : Option Addr) (n c : Nat) (l : List Sl) : Prop where
  at_ : SlAt w a l
  len : l.length = n
  le : n ≤ c
  cm : c ≤ 9223372036854775807
  nl : a = none → n = 0 ∧ c = 0
  sp : ∀ x, a = some x → x.spot = none
theorem Sli.later {w w' : World} {a : Option Addr} {n c : Nat} {l : List Sl} (h : Sli w a n c l) (hb : Below w.heap.size w w') : Sli w' a n c l := ⟨h.at_.later hb, h.len, h.le, h.cm, h.nl, h.sp⟩
theorem Sli.bf {w w' : World} {a : Option Addr} {n c : Nat} {l : List Sl} (h : Sli w a n c l) {F : Nat → Prop} (hb : Bf F w w') (hF : ∀ x, a = some x → 0 < n → ¬ F x.block) : Sli w' a n c l := ⟨h.at_.bf hb (fun x e h0 => hF x e (by rw [← h.len]; exact h0)), h.len, h.le, h.cm, h.nl, h.sp⟩
theorem Sli.nil (w : World) : Sli w none 0 0 [] := ⟨SlAt.nil _ _, rfl, Nat.le_refl _, by decide, fun _ => ⟨rfl, rfl⟩, (fun x e => by cases e)⟩
theorem owns_sl {w : World} {base : Nat} {v : Value} {l : List Sl} {n : Nat} (hn : l.length = n) (h : w.ownsRow base 58 2 v n (scx l)) : ∃ a cap, v = .slice a n cap ∧ Sli w a n cap l ∧ (∀ x, a = some x → base ≤ x.block) := by
  rcases h.2 with ⟨rfl, h0⟩ | ⟨g, cap, cur, rfl, hg, hh, hnc, hM, -, ht⟩
  · subst h0
    have : l = [] := List.length_eq_zero_iff.1 hn
    subst this
    exact ⟨none, 0, rfl, Sli.nil _, (fun x e => by cases e)⟩
  · refine ⟨_, cap, rfl, ⟨fun i hi => ⟨g, 0, rfl, ?_⟩, hn, hnc, by unfold maxLen at hM; omega, (fun e => by cases e), (fun x e => by injection e with e; subst e; rfl)⟩, (fun x e => by injection e with e; subst e; exact hg)⟩
    obtain ⟨h0, h1⟩ := scx_at l i hi
    have cell : ∀ j u, (scx l)[j]? = some u → w.cell? ⟨g, j, none⟩ = some u := fun j u hj => by
      have hjl : j < n * 2 := by
        have := (List.getElem?_eq_some_iff.1 hj).1
        rw [scx_len, hn] at this
        exact this
      rw [← ht, List.getElem?_take_of_lt hjl] at hj
      unfold World.cell?
      rw [hh]
      simp only [Option.isSome_none]
      show cur[j]? = _
      rw [← hj]
      simp
    exact ⟨by rw [Nat.zero_add]; exact cell _ _ h0, by rw [Nat.zero_add]; exact cell _ _ h1⟩
def idx : List Sl → Bs → Nat
  | [], _ => 0
  | e :: l, i => if e.1 = i then 0 else idx l i + 1
theorem idx_le : ∀ (l : List Sl) (i : Bs), idx l i ≤ l.length
  | [], _ => Nat.le_refl _
  | e :: l, i => by
    rw [idx]
    split
    · exact Nat.zero_le _
    · rw [List.length_cons]; exact Nat.succ_le_succ (idx_le l i)
theorem idx_lt : ∀ (l : List Sl) (i : Bs), idx l i < l.length ↔ i ∈ ids l
  | [], _ => ⟨fun h => absurd h (Nat.lt_irrefl _), fun h => by cases h⟩
  | e :: l, i => by
    rw [idx]
    by_cases c : e.1 = i
    · rw [if_pos c]
      exact ⟨fun _ => by rw [← c]; exact List.mem_cons_self .., fun _ => by rw [List.length_cons]; omega⟩
    · rw [if_neg c, List.length_cons]
      have h := idx_lt l i
      constructor
      · intro z
        exact List.mem_cons_of_mem _ (h.1 (by omega))
      · intro z
        rcases List.mem_cons.1 z with z | z
        · exact absurd z.symm c
        · have := h.2 z; omega
theorem idx_ne : ∀ (l : List Sl) (i : Bs) (j : Nat) (hj : j < l.length), j < idx l i → l[j].1 ≠ i
  | e :: l, i, 0, _, h => by
    rw [idx] at h
    split at h
    · exact absurd h (Nat.lt_irrefl _)
    · assumption
  | e :: l, i, j + 1, hj, h => by
    rw [idx] at h
    split at h
    · exact absurd h (Nat.not_lt_zero _)
    · exact idx_ne l i j (by simpa using hj) (by omega)
theorem idx_at : ∀ (l : List Sl) (i : Bs) (h : idx l i < l.length), l[idx l i].1 = i
  | [], i, h => absurd h (Nat.lt_irrefl _)
  | e :: l, i, h => by
    by_cases c : e.1 = i
    · have : idx (e :: l) i = 0 := by rw [idx, if_pos c]
      simp only [this]
      exact c
    · have z : idx (e :: l) i = idx l i + 1 := by rw [idx, if_neg c]
      simp only [z]
      rw [z] at h
      exact idx_at l i (by simpa using h)
theorem rmL_cut : ∀ (l : List Sl) (i : Bs), i ∈ ids l → rmL l i = l.take (idx l i) ++ l.drop (idx l i + 1)
  | [], _, h => by cases h
  | e :: l, i, h => by
    rw [rmL, idx]
    by_cases c : e.1 = i
    · rw [if_pos c, if_pos c]; rfl
    · rw [if_neg c, if_neg c]
      rcases List.mem_cons.1 h with h | h
      · exact absurd h.symm c
      · rw [List.take_succ_cons, List.drop_succ_cons, List.cons_append, rmL_cut l i h]
def fnd (l : List Sl) (i : Bs) : Int := if i ∈ ids l then (idx l i : Int) else -1
theorem st_ne {a b : ByteArray} (h : a.data.toList ≠ b.data.toList) : (a.toList == b.toList) = false := by
  rw [ByteArray.toList_eq, ByteArray.toList_eq]
  exact beq_eq_false_iff_ne.2 h
theorem st_eqb {a b : ByteArray} (h : a.data.toList = b.data.toList) : (a.toList == b.toList) = true := by
  rw [ByteArray.toList_eq, ByteArray.toList_eq, h]
  exact beq_self_eq_true _
set_option maxHeartbeats 1000000 in
theorem xclos_any (bx : Nat) (I T X : ByteArray) (W : World) (hb : W.cell? ⟨bx, 0, none⟩ = some (.string X)) (r : Bool) (hr : (I.toList == X.toList) = r) :
    Calls Tryz.prog 118 #[.agg #[.string I, .string T], .pointer (some ⟨bx, 0, none⟩)] W fun e w' => e = .returned (.bool r) ∧ Below W.heap.size W w' := by
  have hl : bx < W.heap.size := World.block_lt_of_cell? _ _ hb
  have hne : ¬ bx = W.heap.size := by omega
  go_enter Tryz.func118, Tryz.ntmps118
  go_wp2
  go_ret
  exact ⟨rfl, (Below.refl _ _).alloc (Nat.le_refl _) _⟩
set_option maxHeartbeats 1000000 in
theorem xindex_any (a : Option Addr) (n c bx : Nat) (l : List Sl) (X : ByteArray) (hn : l.length = n) (h1 : n ≤ 1000000) (w : World) (h : Hid (SlAt w a l)) (hb : Hid (w.cell? ⟨bx, 0, none⟩ = some (.string X))) :
    Calls Tryz.prog 117 #[.slice a n c, .func (.func 118) #[] #[.pointer (some ⟨bx, 0, none⟩)]] w fun e w' => e = .returned (.int .i64 (fnd l X.data.toList)) ∧ Below w.heap.size w w' := by
  have HL : Hid (l.length = n) := hn
  have hle := idx_le l X.data.toList
  obtain ⟨z, hz⟩ : ∃ z, fnd l X.data.toList = z := ⟨_, rfl⟩
  have HZ : Hid (fnd l X.data.toList = z) := hz
  rw [hz]
  obtain ⟨J, hJ⟩ : ∃ J, idx l X.data.toList = J := ⟨_, rfl⟩
  have HJ : Hid (idx l X.data.toList = J) := hJ
  have hJn : J ≤ n := by omega
  clear hn hz hJ hle
  go_enter Tryz.func117, Tryz.ntmps117
  go_wp2
  go_loopw [8] (fun i wr => ∃ k : Nat, k ≤ J ∧ i = .int .i64 (k : Int) ∧ Hid (Below w.heap.size w wr)) (fun i _ => n - (intOf i).toNat)
  case atStart => exact ⟨0, by omega, rfl, Below.refl _ _⟩
  case round =>
    obtain ⟨k, hk, rfl, I⟩ := hrel
    by_cases hkn : k < n
    · have hkl : k < l.length := by have := HL.out; omega
      have g1 : (k : Int) < (n : Int) := by omega
      obtain ⟨b1, o1, rfl, a0, a1⟩ := (h.out.later I.out) k hkl
      have hcb := cell_later I.out hb.out
      by_cases hkj : k = J
      · have e1 : (st l[k].1).toList == X.toList := by
          refine st_eqb ?_
          have h1 := idx_at l X.data.toList (by have := HJ.out; omega)
          have h2 : idx l X.data.toList = k := by rw [HJ.out, hkj]
          simp only [h2] at h1
          exact h1
        have C : Hid _ := xclos_any bx (st l[k].1) (st l[k].2) X wr hcb true e1
        have E : Hid (z = (k : Int)) := by
          rw [← HZ.out, fnd, if_pos ((idx_lt _ _).1 (by have := HJ.out; omega)), HJ.out, hkj]
          rfl
        obtain ⟨S1, hS1⟩ : ∃ S, st l[k].1 = S := ⟨_, rfl⟩
        obtain ⟨S2, hS2⟩ : ∃ S, st l[k].2 = S := ⟨_, rfl⟩
        unfold sv at a0 a1
        rw [hS1] at a0 C
        rw [hS2] at a1 C
        clear hS1 hS2 e1 hcb hkj
        go_wp2_with (go_at_call 118; refine Calls.mono C.out ?_; rintro e w9 ⟨rfl, hb9⟩)
        go_ret
        exact ⟨by rw [E.out]; rfl, chain I.out hb9⟩
      · have e1 : ((st l[k].1).toList == X.toList) = false := st_ne (idx_ne l X.data.toList k hkl (by have := HJ.out; omega))
        have C : Hid _ := xclos_any bx (st l[k].1) (st l[k].2) X wr hcb false e1
        obtain ⟨S1, hS1⟩ : ∃ S, st l[k].1 = S := ⟨_, rfl⟩
        obtain ⟨S2, hS2⟩ : ∃ S, st l[k].2 = S := ⟨_, rfl⟩
        unfold sv at a0 a1
        rw [hS1] at a0 C
        rw [hS2] at a1 C
        clear hS1 hS2 e1 hcb
        go_wp2_with (go_at_call 118; refine Calls.mono C.out ?_; rintro e w9 ⟨rfl, hb9⟩)
        go_roundw
        case rel => exact ⟨k + 1, by omega, by go_num, chain I.out hb9⟩
        case measure => simp [intOf]; omega
    · have g1 : ¬ (k : Int) < (n : Int) := by omega
      have E : Hid (z = -1) := by
        rw [← HZ.out, fnd, if_neg (fun c => by have := (idx_lt _ _).2 c; have := HL.out; have := HJ.out; omega)]
        rfl
      go_wp2
      go_ret
      exact ⟨by rw [E.out]; rfl, I.out⟩
set_option maxHeartbeats 1000000 in
theorem xfind_any (a : Option Addr) (n c : Nat) (l : List Sl) (X : ByteArray) (hn : l.length = n) (h1 : n ≤ 1000000) (w : World) (h : Hid (SlAt w a l)) :
    Calls Tryz.prog 69 #[.slice a n c, .string X] w fun e w' => e = .returned (.int .i64 (fnd l X.data.toList)) ∧ Below w.heap.size w w' := by
  have nb1 := nb w (.cells #[.string X] 9)
  have C : Hid _ := xindex_any a n c w.heap.size l X hn h1 (w.alloc (.cells #[.string X] 9)) (h.out.later nb1) (by rw [World.cell?_alloc_new]; rfl)
  have B1 : Hid _ := nb1
  obtain ⟨W1, hW1⟩ : ∃ W, w.alloc (.cells #[.string X] 9) = W := ⟨_, rfl⟩
  obtain ⟨A, hA⟩ : ∃ A, w.heap.size = A := ⟨_, rfl⟩
  rw [hW1, hA] at C
  rw [hW1] at B1
  obtain ⟨z, hz⟩ : ∃ z, fnd l X.data.toList = z := ⟨_, rfl⟩
  rw [hz] at C ⊢
  clear h hn nb1 hz
  go_enter Tryz.func69, Tryz.ntmps69
  go_wp2_with fail
  refine Calls.mono C.out ?_
  rintro e w2 ⟨rfl, hb2⟩
  have FF : Hid (Below w.heap.size w w2) := chain B1.out hb2
  rw [hA] at FF
  clear C B1 hb2 hW1
  go_wp2
  go_ret
  exact ⟨rfl, by rw [hA]; exact FF.out⟩
theorem xhas_any (a : Option Addr) (n c : Nat) (l : List Sl) (X : ByteArray) (hn : l.length = n) (h1 : n ≤ 1000000) (w : World) (h : Hid (SlAt w a l)) :
    Calls Tryz.prog 40 #[.slice a n c, .string X] w fun e w' => e = .returned (.bool (decide (X.data.toList ∈ ids l))) ∧ Below w.heap.size w w' := by
  have C : Hid _ := xfind_any a n c l X hn h1 w h
  by_cases hm : X.data.toList ∈ ids l
  · have e0 : fnd l X.data.toList = (idx l X.data.toList : Int) := if_pos hm
    rw [decide_eq_true hm]
    rw [e0] at C
    have g : 0 ≤ (idx l X.data.toList : Int) := by omega
    obtain ⟨z, hz⟩ : ∃ z : Int, (idx l X.data.toList : Int) = z := ⟨_, rfl⟩
    rw [hz] at C g
    clear hz e0 hm h hn
    go_enter Tryz.func40, Tryz.ntmps40
    go_wp2_with fail
    refine Calls.mono C.out ?_
    rintro e w2 ⟨rfl, hb2⟩
    have FF : Hid _ := hb2
    clear C hb2
    go_wp2
    go_ret
    exact ⟨rfl, FF.out⟩
  · have e0 : fnd l X.data.toList = -1 := if_neg hm
    rw [decide_eq_false hm]
    rw [e0] at C
    clear e0 hm h hn
    go_enter Tryz.func40, Tryz.ntmps40
    go_wp2_with fail
    refine Calls.mono C.out ?_
    rintro e w2 ⟨rfl, hb2⟩
    have FF : Hid _ := hb2
    clear C hb2
    go_wp2
    go_ret
    exact ⟨rfl, FF.out⟩
theorem xuser_any (u : Int) (w : World) : Calls Tryz.prog 32 #[.int .i64 u] w fun e w' => e = .returned (.bool (!noU u)) ∧ w' = w := by
  unfold noU
  by_cases h0 : u < 0
  · have g : ¬ 0 ≤ u := by omega
    rw [decide_eq_true h0]
    go_enter Tryz.func32, Tryz.ntmps32
    go_wp2
    go_ret
    exact ⟨rfl, rfl⟩
  · have g : 0 ≤ u := by omega
    by_cases h1 : 64 ≤ u
    · have g2 : ¬ u < 64 := by omega
      rw [decide_eq_false h0, decide_eq_true h1]
      go_enter Tryz.func32, Tryz.ntmps32
      go_wp2
      go_ret
      exact ⟨rfl, rfl⟩
    · have g2 : u < 64 := by omega
      rw [decide_eq_false h0, decide_eq_false h1]
      go_enter Tryz.func32, Tryz.ntmps32
      go_wp2
      go_ret
      exact ⟨rfl, rfl⟩
theorem xtext_any (T : ByteArray) (w : World) : Calls Tryz.prog 39 #[.string T] w fun e w' => e = .returned (.bool (decide (T.size ≤ 222))) ∧ w' = w := by
  by_cases h : T.size ≤ 222
  · have g : (T.size : Int) ≤ 222 := by omega
    rw [decide_eq_true h]
    go_enter Tryz.func39, Tryz.ntmps39
    go_wp2
    go_ret
    exact ⟨rfl, rfl⟩
  · have g : ¬ (T.size : Int) ≤ 222 := by omega
    rw [decide_eq_false h]
    go_enter Tryz.func39, Tryz.ntmps39
    go_wp2
    go_ret
    exact ⟨rfl, rfl⟩
end Go.Proofs.YtjpaodepnacimaaGreatDoor
namespace Go.Proofs.YtjpaodepnacimaaGreatDoor
open Go.RowKit Go.Proofs.Fd Go.Proofs.Dk Go.Proofs.Lg Go.Proofs.Bx
set_option maxRecDepth 20000
def tlAt : Go.Shelf.Ren := ⟨fun x => if x = 231 then 110 else 0, fun x => if x = 3 then 3 else if x = 4 then 4 else if x = 5 then 5 else if x = 9 then 9 else 0, fun n => n⟩
theorem tlLies : Lays.n231 Tryz.prog tlAt :=
  { mixed := by kernel_rfl, f231 := by kernel_rfl, t3 := by kernel_rfl, a3 := fun _ => by kernel_rfl, z3 := fun _ => by kernel_rfl, v3 := fun _ => by kernel_rfl, t4 := by kernel_rfl, a4 := fun _ => by kernel_rfl, z4 := fun _ => by kernel_rfl, v4 := fun _ => by kernel_rfl, t5 := by kernel_rfl, a5 := fun _ => by kernel_rfl, z5 := fun _ => by kernel_rfl, v5 := fun _ => by kernel_rfl, t9 := by kernel_rfl, a9 := fun _ => by kernel_rfl, z9 := fun _ => by kernel_rfl, v9 := fun _ => by kernel_rfl }
def trAt : Go.Shelf.Ren := ⟨fun x => if x = 232 then 111 else 0, fun x => if x = 3 then 3 else if x = 4 then 4 else if x = 5 then 5 else if x = 9 then 9 else 0, fun n => n⟩
theorem trLies : Lays.n232 Tryz.prog trAt :=
  { mixed := by kernel_rfl, f232 := by kernel_rfl, t3 := by kernel_rfl, a3 := fun _ => by kernel_rfl, z3 := fun _ => by kernel_rfl, v3 := fun _ => by kernel_rfl, t4 := by kernel_rfl, a4 := fun _ => by kernel_rfl, z4 := fun _ => by kernel_rfl, v4 := fun _ => by kernel_rfl, t5 := by kernel_rfl, a5 := fun _ => by kernel_rfl, z5 := fun _ => by kernel_rfl, v5 := fun _ => by kernel_rfl, t9 := by kernel_rfl, a9 := fun _ => by kernel_rfl, z9 := fun _ => by kernel_rfl, v9 := fun _ => by kernel_rfl }
theorem trim_nil (l : List UInt8) : Lib.trimB l 0 = [] ↔ l = zr l.length := by
  have all : ∀ m : List UInt8, m.dropWhile (· == 0) = [] ↔ ∀ x ∈ m, x = 0 := fun m => by
    induction m with
    | nil => simp
    | cons y m ih =>
      by_cases c : y = 0
      · subst c
        rw [List.dropWhile_cons, if_pos (by simp), ih]
        exact ⟨fun h x hx => by rcases List.mem_cons.1 hx with hx | hx; exact hx; exact h x hx, fun h x hx => h x (List.mem_cons_of_mem _ hx)⟩
      · rw [List.dropWhile_cons, if_neg (by simpa using c)]
        exact ⟨(fun h => by cases h), fun h => absurd (h y (List.mem_cons_self ..)) c⟩
  have zz : l = zr l.length ↔ ∀ x ∈ l, x = 0 := by
    unfold zr
    rw [List.eq_replicate_iff]
    exact ⟨fun h => h.2, fun h => ⟨rfl, h⟩⟩
  rw [zz]
  unfold Lib.trimB Lib.trimLeftB Lib.trimRightB
  rw [all]
  constructor
  · intro h
    have hn : l.reverse.dropWhile (· == 0) = [] := by
      cases hd : l.reverse.dropWhile (· == 0) with
      | nil => rfl
      | cons y r =>
        exfalso
        have h1 : y = 0 := h y (by rw [hd]; simp)
        have h2 := List.head_dropWhile_not (p := fun x : UInt8 => x == 0) (l := l.reverse) (by rw [hd]; simp)
        simp only [hd] at h2
        rw [List.head_cons, h1] at h2
        simp at h2
    intro x hx
    exact (all l.reverse).1 hn x (by simpa using hx)
  · intro h x hx
    have hn : l.reverse.dropWhile (· == 0) = [] := (all l.reverse).2 (fun x hx => h x (by simpa using hx))
    rw [hn] at hx
    cases hx
set_option maxHeartbeats 1000000 in
theorem xtrim_any (X : ByteArray) (hX : X.size = 16) (w : World) :
    Calls Tryz.prog 68 #[.string X, .string ⟨#[0]⟩] w fun e w' => e = .returned (.string ⟨(Lib.trimB X.data.toList 0).toArray⟩) ∧ Below w.heap.size w w' := by
  have TR : Hid (∀ W, Calls Tryz.prog 111 #[.string X, .int .u8 0] W fun e w' => e = .returned (.string ⟨(Lib.trimRightB X.data.toList 0).toArray⟩) ∧ w' = W) := fun W => Any.strings_trimRightByte (ρ := trAt) trLies X 0 W (by omega)
  have TL : Hid (∀ W, Calls Tryz.prog 110 #[.string ⟨(Lib.trimRightB X.data.toList 0).toArray⟩, .int .u8 0] W fun e w' => e = .returned (.string ⟨(Lib.trimB X.data.toList 0).toArray⟩) ∧ w' = W) := fun W => Any.strings_trimLeftByte (ρ := tlAt) tlLies ⟨(Lib.trimRightB X.data.toList 0).toArray⟩ 0 W
  obtain ⟨R, hR⟩ : ∃ R : ByteArray, (⟨(Lib.trimRightB X.data.toList 0).toArray⟩ : ByteArray) = R := ⟨_, rfl⟩
  obtain ⟨S, hS⟩ : ∃ R : ByteArray, (⟨(Lib.trimB X.data.toList 0).toArray⟩ : ByteArray) = R := ⟨_, rfl⟩
  rw [hR] at TR TL
  rw [hS] at TL ⊢
  have hne : (X.toList == ([] : List UInt8)) = false := by
    rw [ByteArray.toList_eq]
    refine beq_eq_false_iff_ne.2 fun c => ?_
    have : X.data.toList.length = X.size := by simp
    rw [c] at this
    simp at this
    omega
  have hne2 : X.toList ≠ [] := fun c => by rw [c] at hne; simp at hne
  have hne3 : X.isEmpty = false := by
    rw [ByteArray.isEmpty]
    simp [hX]
  clear hR hS
  go_enter Tryz.func68, Tryz.ntmps68
  go_wp2_with fail
  go_region_with (first | (go_at_call 111; refine Calls.mono (TR.out _) ?_; rintro e w1 ⟨rfl, rfl⟩) | (go_at_call 110; refine Calls.mono (TL.out _) ?_; rintro e w2 ⟨rfl, rfl⟩))
  all_goals
    go_wp2
    go_ret
    exact ⟨rfl, (Below.refl _ _).drew⟩
theorem okI_of (X : ByteArray) (h : X.size = 16) : okI X.data.toList = !decide (Lib.trimB X.data.toList 0 = []) := by
  have hl : X.data.toList.length = 16 := by rw [← h]; simp
  unfold okI
  rw [decide_eq_true hl, Bool.true_and]
  have e := trim_nil X.data.toList
  rw [hl] at e
  by_cases c : X.data.toList = zr 16
  · rw [decide_eq_true c, decide_eq_true (e.2 c)]
  · rw [decide_eq_false c, decide_eq_false (fun z => c (e.1 z))]
set_option maxHeartbeats 1000000 in
theorem xid_any (X : ByteArray) (w : World) : Calls Tryz.prog 38 #[.string X] w fun e w' => e = .returned (.bool (okI X.data.toList)) ∧ Below w.heap.size w w' := by
  by_cases h : X.size = 16
  · have g : (X.size : Int) = 16 := by omega
    have TM : Hid _ := xtrim_any X h w
    have E := okI_of X h
    by_cases c : Lib.trimB X.data.toList 0 = []
    · rw [decide_eq_true c] at E
      rw [E]
      rw [c] at TM
      clear c E h
      go_enter Tryz.func38, Tryz.ntmps38
      go_wp2_with fail
      refine Calls.mono TM.out ?_
      rintro e w1 ⟨rfl, hb⟩
      have FF : Hid _ := hb
      clear TM hb
      go_wp2
      go_ret
      exact ⟨rfl, FF.out⟩
    · rw [decide_eq_false c] at E
      rw [E]
      obtain ⟨R, hR⟩ : ∃ R : ByteArray, (⟨(Lib.trimB X.data.toList 0).toArray⟩ : ByteArray) = R := ⟨_, rfl⟩
      rw [hR] at TM
      have hne : (R.toList == ([] : List UInt8)) = false := by
        rw [ByteArray.toList_eq, ← hR]
        exact beq_eq_false_iff_ne.2 c
      have hne2 : R.toList ≠ [] := fun c => by rw [c] at hne; simp at hne
      have hne3 : R.isEmpty = false := by
        have : R.data.toList ≠ [] := by rw [← hR]; exact c
        rw [ByteArray.isEmpty]
        have h0 : R.size ≠ 0 := fun z => this (List.length_eq_zero_iff.1 (by rw [← z]; simp))
        simpa using h0
      clear c E h hR
      go_enter Tryz.func38, Tryz.ntmps38
      go_wp2_with fail
      refine Calls.mono TM.out ?_
      rintro e w1 ⟨rfl, hb⟩
      have FF : Hid _ := hb
      clear TM hb
      go_wp2
      go_ret
      exact ⟨rfl, FF.out⟩
  · have g : ¬ (X.size : Int) = 16 := by omega
    have E : okI X.data.toList = false := by
      unfold okI
      rw [decide_eq_false (by intro c; apply h; rw [← c]; simp), Bool.false_and]
    rw [E]
    clear E h
    go_enter Tryz.func38, Tryz.ntmps38
    go_wp2
    go_ret
    exact ⟨rfl, Below.refl _ _⟩
set_option maxHeartbeats 1000000 in
theorem xbyte_any (u : Nat) (hu : u < 64) (w : World) : Calls Tryz.prog 73 #[.int .i64 (u : Int)] w fun e w' => e = .returned (.string (st [UInt8.ofNat u])) ∧ Below w.heap.size w w' := by
  have e0 : (u : Int) % 256 = (u : Int) := by omega
  have e1 : IntKind.u8.wrap (u : Int) = (u : Int) := by
    have : IntKind.u8.wrap (u : Int) = (u : Int) % 256 := by first | rfl | simp [IntKind.wrap]
    rw [this, e0]
  have BA : BytesAt (w.alloc (.cells #[.int .u8 (u : Int)] 5)) w.heap.size [UInt8.ofNat u] := fun j hj => by
    obtain rfl : j = 0 := by simp at hj; exact hj
    refine ⟨?_, by simp [go_sem]⟩
    rw [World.cell?_alloc_new]
    show some _ = some (Value.int .u8 ((UInt8.ofNat u).toNat : Int))
    rw [UInt8.toNat_ofNat', Nat.mod_eq_of_lt (show u < 2 ^ 8 by omega)]
    rfl
  have CV := BA.string (cap := 1) (n := 1) rfl
  have FF : Hid (Below w.heap.size w (w.alloc (.cells #[.int .u8 (u : Int)] 5))) := nb w _
  obtain ⟨R, hR⟩ : ∃ R : ByteArray, st [UInt8.ofNat u] = R := ⟨_, rfl⟩
  have CV2 : (convert 70 9 (.slice (some ⟨w.heap.size, 0, none⟩) 1 1)).run Tryz.prog (w.alloc (.cells #[.int .u8 (u : Int)] 5)) = .ok (.string R) (w.alloc (.cells #[.int .u8 (u : Int)] 5)) := by rw [← hR]; exact CV
  rw [hR]
  obtain ⟨z, hz⟩ : ∃ z : Int, (u : Int) = z := ⟨_, rfl⟩
  rw [hz] at e0 e1 CV2 FF ⊢
  clear CV BA hR hz
  go_enter Tryz.func73, Tryz.ntmps73
  go_wp2
  go_ret
  exact ⟨rfl, FF.out⟩
theorem put_st (u : Nat) (i t : Bs) : st (putR u i t) = (⟨#[80]⟩ : ByteArray) ++ st [UInt8.ofNat u] ++ st i ++ st t := by
  have e : putR u i t = [80] ++ [UInt8.ofNat u] ++ i ++ t := by unfold putR; simp
  rw [e, ← st_app, ← st_app, ← st_app]
  rfl
theorem ack_st (u : Nat) (i : Bs) : st (ackR u i) = (⟨#[65]⟩ : ByteArray) ++ st [UInt8.ofNat u] ++ st i := by
  have e : ackR u i = [65] ++ [UInt8.ofNat u] ++ i := by unfold ackR; simp
  rw [e, ← st_app, ← st_app]
  rfl
set_option maxHeartbeats 1000000 in
theorem xput_any (u : Nat) (hu : u < 64) (i t : Bs) (hi : i.length = 16) (ht : t.length ≤ 222) (w : World) : Calls Tryz.prog 42 #[.int .i64 (u : Int), .string (st i), .string (st t)] w fun e w' => e = .returned (.string (st (putR u i t))) ∧ Below w.heap.size w w' := by
  have UB : Hid _ := xbyte_any u hu w
  have s0 : (st [UInt8.ofNat u]).size = 1 := st_size _
  have s1 : (st i).size = 16 := by rw [st_size, hi]
  have s2 : (st t).size ≤ 222 := by rw [st_size]; exact ht
  rw [put_st]
  obtain ⟨U, hU⟩ : ∃ R : ByteArray, st [UInt8.ofNat u] = R := ⟨_, rfl⟩
  obtain ⟨I, hI⟩ : ∃ R : ByteArray, st i = R := ⟨_, rfl⟩
  obtain ⟨T, hT⟩ : ∃ R : ByteArray, st t = R := ⟨_, rfl⟩
  rw [hU] at UB s0 ⊢
  rw [hI] at s1 ⊢
  rw [hT] at s2 ⊢
  clear hU hI hT hi ht
  go_enter Tryz.func42, Tryz.ntmps42
  go_wp2_with fail
  refine Calls.mono UB.out ?_
  rintro e w1 ⟨rfl, hb⟩
  have FF : Hid _ := hb
  clear UB hb
  go_wp2
  go_ret
  exact ⟨rfl, FF.out⟩
set_option maxHeartbeats 1000000 in
theorem xack_any (u : Nat) (hu : u < 64) (i : Bs) (hi : i.length = 16) (w : World) : Calls Tryz.prog 75 #[.int .i64 (u : Int), .string (st i)] w fun e w' => e = .returned (.string (st (ackR u i))) ∧ Below w.heap.size w w' := by
  have UB : Hid _ := xbyte_any u hu w
  have s0 : (st [UInt8.ofNat u]).size = 1 := st_size _
  have s1 : (st i).size = 16 := by rw [st_size, hi]
  rw [ack_st]
  obtain ⟨U, hU⟩ : ∃ R : ByteArray, st [UInt8.ofNat u] = R := ⟨_, rfl⟩
  obtain ⟨I, hI⟩ : ∃ R : ByteArray, st i = R := ⟨_, rfl⟩
  rw [hU] at UB s0 ⊢
  rw [hI] at s1 ⊢
  clear hU hI hi
  go_enter Tryz.func75, Tryz.ntmps75
  go_wp2_with fail
  refine Calls.mono UB.out ?_
  rintro e w1 ⟨rfl, hb⟩
  have FF : Hid _ := hb
  clear UB hb
  go_wp2
  go_ret
  exact ⟨rfl, FF.out⟩
end Go.Proofs.YtjpaodepnacimaaGreatDoor
