/- A log and a list of the call's own beside it. -/
import Derived.Test.YtdcimnmebgkmjaaDoorLhF
import Derived.Deep.CutBlock
namespace Go.Proofs.YtdcimnmebgkmjaaDoor
open Go.RowKit Go.Proofs.Fd Go.Proofs.Dk Go.Proofs.Lg
set_option maxRecDepth 20000

theorem may_is {X : ByteArray} (h1 : 1 ≤ X.size) (h2 : X.size ≤ 2000) : may X.data.toList = 0 := by
  have e : X.data.toList.length = X.size := by simp
  unfold may
  rw [e, if_neg (by omega), if_neg (by omega)]
theorem empty_is {X : ByteArray} (h : X.size = 0) : X.toList = [] ∧ X.toList.isEmpty = true := by
  have e : X.toList = [] := by
    rw [ByteArray.toList_eq]
    exact List.length_eq_zero_iff.1 (by simpa using h)
  exact ⟨e, by rw [e]; rfl⟩
theorem full_is {X : ByteArray} (h : ¬ X.size = 0) : ¬ X.toList = [] ∧ X.toList.isEmpty = false := by
  have e : ¬ X.toList = [] := fun c => h (by
    rw [ByteArray.toList_eq] at c
    have := congrArg List.length c
    simpa using this)
  exact ⟨e, by cases hx : X.toList with
    | nil => exact absurd hx e
    | cons _ _ => rfl⟩
theorem owns_bf {w w' : World} {v : Value} {l : List Bs} (h : OwnsS w v l) {G : Nat → Prop} (hb : Bf G w w') (hG : ∀ y, v.ownBlock = some y → ¬ G y) : OwnsS w' v l := by
  refine ⟨h.1, ?_⟩
  rcases h.2 with h2 | ⟨g, cap, cur, rfl, hg, hh, hr⟩
  · exact .inl h2
  · exact .inr ⟨g, cap, cur, rfl, hg, (hb.block g (Array.getElem?_eq_some_iff.1 hh).1 (hG g rfl)).trans hh, hr⟩
theorem sns_drop (l : List Bs) : ∀ j, sns (l.drop j) ≤ sns l := by
  induction l with
  | nil => intro j; rw [List.drop_nil]; exact Nat.le_refl _
  | cons t l ih =>
    intro j
    match j with
    | 0 => exact Nat.le_refl _
    | j + 1 =>
      have := ih j
      rw [List.drop_succ_cons, sns]
      omega
/-- A log on such a disk, and a row of texts apart of it. -/
structure Cw (w wr : World) (p : Nat) (F : Nat → Prop) (f : Nat → Bs) (l : List Wt) (q : Nat) (v : Value) (x : Lo) (u : Value) (hs : List Bs) : Prop where
  lu : Lu w wr p F 120 f l q v x
  own : OwnsS wr u hs
  ap : ∀ y, u.ownBlock = some y → w.heap.size ≤ y ∧ ¬ FH F q v y
section
variable {w wr : World} {p : Nat} {F : Nat → Prop} {f : Nat → Bs} {l : List Wt} {q : Nat} {v : Value} {x : Lo} {u : Value} {hs : List Bs}
theorem Cw.log (h : Cw w wr p F f l q v x u hs) {w' : World} {F' : Nat → Prop} {f' : Nat → Bs} {l' : List Wt} {v' : Value} {x' : Lo} (k : Lu w w' p F' 120 f' l' q v' x') (n : Nx2 wr F q v F' v') (b : Bf (FH F q v) wr w') : Cw w w' p F' f' l' q v' x' u hs :=
  ⟨k, owns_bf h.own b (fun y e => (h.ap y e).2), fun y e => ⟨(h.ap y e).1, n.fh.apart (h.ap y e).2 (h.own.lt y e).2⟩⟩
theorem Cw.later (h : Cw w wr p F f l q v x u hs) {w' : World} (hb : Below wr.heap.size wr w') : Cw w w' p F f l q v x u hs :=
  ⟨h.lu.later hb, owns_bf h.own (Bf.of (F := fun _ => False) hb) (fun _ _ c => c), h.ap⟩
theorem Cw.put (h : Cw w wr p F f l q v x u hs) {w' : World} {u' : Value} {hs' : List Bs} (ho : OwnsS w' u' hs') (k : wr.grownBy w' u.ownBlock) (hu : u'.ownBlock = u.ownBlock ∨ u'.ownBlock = some wr.heap.size) : Cw w w' p F f l q v x u' hs' := by
  refine ⟨h.lu.other (Bf.grown (F := fun y => u.ownBlock = some y) k (fun g e => .inl e)) (fun y hy c => (h.ap y c).2 hy) (fun y e => (h.ap y e).1), ho, fun y e => ?_⟩
  rcases hu with hu | hu
  · rw [hu] at e
    exact h.ap y e
  · rw [hu] at e
    injection e with e
    subst e
    exact ⟨h.lu.hd_.dl.below.size, fun c => absurd (h.lu.fh c).1 (Nat.lt_irrefl _)⟩
/-- has = append(has, s) -/
theorem Cw.app (h : Cw w wr p F f l q v x u hs) (hl : hs.length ≤ 1000) (t : Bs) :
    ∃ a c w2, (Builtin.append_ #[22, 22] 22 #[u, .slice (some ⟨wr.heap.size, 0, none⟩) 1 1]).run Tryd.prog (wr.alloc (.cells #[sv t] 9)) = .ok (.slice a (hs.length + 1) c) w2 ∧ Cw w w2 p F f l q v x (.slice a (hs.length + 1) c) (hs ++ [t]) := by
  have k := h.later (nb wr (.cells #[sv t] 9))
  obtain ⟨v', w', r1, r2, r3, r4⟩ := app_str _ 22 u hs k.own (by omega) t wr.heap.size (by rw [World.cell?_alloc_new]; rfl)
  have r5 := k.put r2 r3 r4
  obtain ⟨a, c, rfl, -, -⟩ := owns_tx rfl r2
  rw [List.length_append, List.length_singleton] at r1 r5
  exact ⟨a, c, w', r1, r5⟩
theorem sslice_from (g o len cap n a : Nat) (hn : n ≤ len) (ha : (if cap = n then o else o + n) = a) (w : World) :
    (Instr.slice 22 (.slice (some ⟨g, o, none⟩) len cap) (some (.int .i64 (n : Int))) none none).run Tryd.prog w = .ok (.slice (some ⟨g, a, none⟩) (len - n) (cap - n)) w := by
  have h1 : (n : Int) ≤ (len : Int) := by omega
  by_cases q : cap = n
  · rw [if_pos q] at ha
    subst ha
    subst q
    simp [go_sem, h1]
  · rw [if_neg q] at ha
    subst ha
    simp [go_sem, h1, q]
/-- append([]string{}, has[j:]...) -/
theorem Cw.drop {a : Option Addr} {n c : Nat} (h : Cw w wr p F f l q v x (.slice a n c) hs) (hn : hs.length = n) (h0 : 0 < n) (hm : n ≤ 1000) (j : Nat) (hj : j ≤ n) :
    ∃ a2 c2 a3 c3 w3, (∀ W, (Instr.slice 22 (.slice a n c) (some (.int .i64 (j : Int))) none none).run Tryd.prog W = .ok (.slice a2 (n - j) c2) W)
      ∧ (Builtin.append_ #[22, 22] 22 #[.slice (some ⟨wr.heap.size, 0, none⟩) 0 0, .slice a2 (n - j) c2]).run Tryd.prog (wr.alloc (.cells #[] 9)) = .ok (.slice a3 (n - j) c3) w3
      ∧ Cw w w3 p F f l q v x (.slice a3 (n - j) c3) (hs.drop j) := by
  have hN : Hid (hs.length = n) := hn
  have ho := h.own
  rcases ho.2 with ⟨e, -⟩ | ⟨g, cap, cur, e, -, hh, hnc, -, hcs, ht⟩
  · injection e with e1 e2 e3
    omega
  · injection e with e1 e2 e3
    subst e1
    subst e3
    clear e2
    rw [hn] at hnc ht
    rw [Nat.mul_one] at ht
    obtain ⟨o, hoo⟩ : ∃ o, (if c = j then 0 else 0 + j) = o := ⟨_, rfl⟩
    have sl := sslice_from g 0 n c j o hj hoo
    have k := h.later (nb wr (.cells #[] 9))
    have each : ∀ i y, (scs (hs.drop j))[i]? = some y → (wr.alloc (.cells #[] 9)).cell? (Addr.add ⟨g, o, none⟩ i) = some y := fun i y hy => by
      have hi : i < hs.length - j := by
        have := (List.getElem?_eq_some_iff.1 hy).1
        rw [scs_len, List.length_drop] at this
        exact this
      have hcj : ¬ c = j := by have := hN.out; omega
      rw [if_neg hcj, Nat.zero_add] at hoo
      subst hoo
      have hy2 : (scs hs)[j + i]? = some y := by
        rw [← hy]
        simp [scs]
      rw [← ht, List.getElem?_take_of_lt (by have := hN.out; omega)] at hy2
      have q : Addr.add ⟨g, j, none⟩ i = ⟨g, j + i, none⟩ := Addr.add_mid ..
      rw [q]
      have hlt : g < wr.heap.size := (Array.getElem?_eq_some_iff.1 hh).1
      have hh2 : (wr.alloc (.cells #[] 9)).heap[g]? = some (.cells cur 9 (0, 0)) := ((nb wr (.cells #[] 9)).block g hlt).trans hh
      unfold World.cell?
      rw [hh2]
      simp only [Option.isSome_none]
      show cur[j + i]? = _
      rw [← hy2]
      simp
    obtain ⟨i0, hi, hz0, hz1, hz2⟩ := info_parts infoS
    have o0 : OwnsS (wr.alloc (.cells #[] 9)) (.slice (some ⟨wr.heap.size, 0, none⟩) 0 0) [] := World.ownsRow_made (base := 0) (e := 9) (size := 1) wr #[] 0 (Nat.zero_le _) (Nat.zero_le _) rfl
    have k0 : Cw w (wr.alloc (.cells #[] 9)) p F f l q v x (.slice (some ⟨wr.heap.size, 0, none⟩) 0 0) [] := ⟨k.lu, o0, fun y e => by
      injection e with e
      have e : wr.heap.size = y := e
      subst e
      exact ⟨h.lu.hd_.dl.below.size, fun c => absurd (h.lu.fh c).1 (Nat.lt_irrefl _)⟩⟩
    obtain ⟨v', w', r1, r2, r3, -, r5⟩ := run_append_own_at (P := Tryd.prog) _ 0 22 22 9 i0 _ 1 16 Tryd.underlying22 hi hz0 hz1 hz2 rfl (by decide) _ 0 [] o0 ⟨g, o, none⟩ (n - j) (c - j) (scs (hs.drop j)) (by rw [scs_len, List.length_drop, hN.out]; omega) each (scs_one _) (by unfold maxLen; omega) (by omega) (Nat.zero_le _)
    rw [Nat.zero_add, List.nil_append] at r2
    have hdl : (hs.drop j).length = n - j := by rw [List.length_drop, hN.out]
    have r2' : OwnsS w' v' (hs.drop j) := by
      unfold OwnsS
      rw [hdl]
      exact r2
    have r6 := k0.put r2' r3 r5
    obtain ⟨a3, c3, rfl, -, -⟩ := owns_tx hdl r2
    exact ⟨some ⟨g, o, none⟩, c - j, a3, c3, w', sl, r1, r6⟩
end
/-- A disk that holds a half begun, and beside it the half before. -/
structure Cr (w wr : World) (p : Nat) (F : Nat → Prop) (f : Nat → Bs) (h g : Nat) (us : List Bs) (u : Value) : Prop where
  dl : Dl w wr p F (up 120 (bgf (h * (120 / 2)) (120 / 2) (hd g ++ rcs (hm g) us) f) [])
  own : OwnsS wr u us
  ap : ∀ y, u.ownBlock = some y → w.heap.size ≤ y ∧ ¬ F y
  h1 : h ≤ 1
  g1 : 2 ≤ g
  g2 : g ≤ 1000000
  sn_ : 1 + sns us ≤ 120 / 2
  ok : ∀ t ∈ us, 1 ≤ t.length ∧ t.length ≤ 2000
  ho : bgf (h * (120 / 2)) (120 / 2) (hd g ++ rcs (hm g) us) f ((1 - h) * (120 / 2)) = hd (g - 1)
theorem compactC (w wr : World) (p : Nat) (F : Nat → Prop) (f : Nat → Bs) (l : List Wt) (q : Nat) (v : Value) (x : Lo) (a : Option Addr) (k c : Nat) (us : List Bs) (hus : us.length = k) (hok : ∀ t ∈ us, 1 ≤ t.length ∧ t.length ≤ 2000) (hsn : 1 + sns us ≤ 120 / 2) (hg : x.g < 1000000) (hk : Kh w) (h : Cw w wr p F f l q v x (.slice a k c) us) :
    Calls Tryd.prog 13 #[.pointer (some ⟨q, 0, none⟩), .slice a k c] wr fun e w' => e = .returned (.int .i64 0) ∧ ∃ F', Cr w w' p F' (lay f l) (1 - x.h) (x.g + 1) us (.slice a k c) := by
  obtain ⟨a', c', e, tx, -⟩ := owns_tx rfl h.own
  injection e with e1 _ e2
  subst e1
  have apF : Ap a us F := fun y e h0 => by
    subst e
    exact fun hc => (h.ap y.block rfl).2 (.inl hc)
  refine (compactU w wr p F 120 f l q v x a k c us hus hok hsn hg hk h.lu tx apF).mono ?_
  rintro e w' ⟨he, F', v', L, N, B⟩
  have C := h.log L N B
  refine ⟨he, F', L.hd_.dl, C.own, fun y e => ⟨(C.ap y e).1, fun hc => (C.ap y e).2 (.inl hc)⟩, by show 1 - x.h ≤ 1; omega, by have := h.lu.g1; omega, by omega, hsn, hok, ?_⟩
  rw [show x.g + 1 - 1 = x.g by omega, ← h.lu.sh, show 1 - (1 - x.h) = x.h by have := h.lu.h1; omega]
  refine bgf_out _ ?_ ?_
  · rw [List.length_append, hd_len, rcs_len]
    omega
  · rcases (by have := h.lu.h1; omega : x.h = 0 ∨ x.h = 1) with e | e
    · rw [e]; exact .inl (by decide)
    · rw [e]; exact .inr (by decide)
theorem crashC (w wr : World) (p : Nat) (F : Nat → Prop) (f : Nat → Bs) (h g : Nat) (us : List Bs) (u : Value) (c : Cr w wr p F f h g us u) :
    Calls Tryd.prog 16 #[.pointer (some ⟨p, 0, none⟩), .slice none 0 0] wr fun e w' => e = .returned (.int .i64 0) ∧ ∃ F', Cr w w' p F' f h g us u := by
  refine (crash0 w wr p F 120 _ [] (Nat.zero_le _) c.dl).mono ?_
  rintro e w' ⟨he, F', D, N, B⟩
  exact ⟨he, F', D, owns_bf c.own B (fun y e => (c.ap y e).2), fun y e => ⟨(c.ap y e).1, N.apart (c.ap y e).2 (c.own.lt y e).2⟩, c.h1, c.g1, c.g2, c.sn_, c.ok, c.ho⟩
theorem openC (w wr : World) (p : Nat) (F : Nat → Prop) (f : Nat → Bs) (h g : Nat) (us : List Bs) (u : Value) (hk : Kh w) (c : Cr w wr p F f h g us u) :
    Calls Tryd.prog 9 #[.pointer (some ⟨p, 0, none⟩)] wr fun e w' => ∃ q v F' f' l', e = .returned (.tuple #[.pointer (some ⟨q, 0, none⟩), .int .i64 0]) ∧ Cw w w' p F' f' l' q v ⟨h, g, us⟩ u us := by
  have hg1 := c.g1
  have hg2 := c.g2
  refine (openU_old w wr p F 120 f h g (g - 1) us (by decide) (by decide) c.h1 (by omega) c.g2 (by omega) c.sn_ c.ok (gen_of 120 _ _ _ _ (by decide) (by omega) c.ho) hk c.dl).mono ?_
  rintro e w' ⟨q, v, F', he, L, B, N, Z⟩
  refine ⟨q, v, F', _, _, he, L, owns_bf c.own B (fun y e => (c.ap y e).2), fun y e => ⟨(c.ap y e).1, fun hc => ?_⟩⟩
  rcases hc with hc | hc
  · exact N.apart (c.ap y e).2 (c.own.lt y e).2 hc
  · have := Z y hc
    have := (c.own.lt y e).2
    omega
/-- What it tells is what the list says. -/
theorem recordsC (w wr : World) (p : Nat) (F : Nat → Prop) (f : Nat → Bs) (l : List Wt) (q : Nat) (v : Value) (x : Lo) (b : Option Addr) (n c : Nat) (hs : List Bs) (hx : x.ts = hs) (h : Cw w wr p F f l q v x (.slice b n c) hs) :
    Calls Tryd.prog 12 #[.pointer (some ⟨q, 0, none⟩)] wr fun e w' => ∃ a k c2, e = .returned (.slice a k c2) ∧ Cw w w' p F f l q v x (.slice b n c) hs ∧ Calls Tryd.prog 17 #[.slice a k c2, .slice b n c] w' fun e w'' => e = .returned (.bool true) ∧ Cw w w'' p F f l q v x (.slice b n c) hs := by
  subst hx
  refine (recordsU w wr p F 120 f l q v x h.lu).mono ?_
  rintro e w' ⟨a, c2, he, tx, hb⟩
  have h2 := h.later hb
  refine ⟨a, _, c2, he, h2, ?_⟩
  obtain ⟨b', c', e2, t2, -⟩ := owns_tx rfl h2.own
  injection e2 with e3 e4 e5
  subst e3
  subst e4
  exact (lsame_any a b _ c2 c x.ts rfl (by have := h.lu.tlen; omega) w' tx t2).mono fun _ _ ⟨h3, h4⟩ => ⟨h3, h2.later h4⟩
set_option maxHeartbeats 4000000 in
theorem LogCompacts_walk (a : Option Addr) (ks : List ByteArray) (len cap : Nat) (hn : ks.length = len) (a1 : Option Addr) (ps : List Int) (len1 cap1 : Nat) (hn1 : ps.length = len1) (w : World) (hk : Hid (Kh w)) (h : Hid (StrAt w a ks)) (h1 : Hid (IntAt w a1 ps)) :
    Calls Tryd.prog 4 #[.slice a len cap, .slice a1 len1 cap1] w fun e w' => e = .returned (.bool true) ∧ Below w.heap.size w w' := by
  have HN : Hid (ks.length = len) := hn
  have HN1 : Hid (ps.length = len1) := hn1
  have NW : Hid _ := newL w w 120 (by decide) (by decide) (Below.refl _ _)
  clear hn hn1
  go_enter Tryd.func4, Tryd.ntmps4
  go_wp2_with fail
  refine Calls.mono NW.out ?_
  rintro e w1 ⟨p, F1, rfl, I1, -, -⟩
  have J1 : Hid (Dl w w1 p F1 (up 120 zs [])) := I1
  clear NW I1
  go_wp2_with fail
  refine Calls.mono (lworks_any w1 (hk.out.later J1.out.below)) ?_
  rintro e w2 ⟨rfl, hb⟩
  have J2 : Hid _ := J1.out.later hb
  clear J1 hb
  go_wp2_with fail
  refine Calls.mono (openU_new w w2 p F1 120 (by decide) (by decide) hk.out J2.out) ?_
  rintro e w3 ⟨q3, v3, F3, rfl, L3, -, -, -⟩
  have J3 : Hid (∃ f3, Cw w w3 p F3 f3 [] q3 v3 ⟨0, 1, []⟩ (.slice none 0 0) []) := ⟨_, L3, owns_nilS _, fun y e => by cases e⟩
  clear J2 L3
  go_upto_block 0 with fail
  go_cut [6, 7, 8, 9, 10, 11, 12] (fun _ qv uv gv _ _ _ wx => ∃ (q : Nat) (F : Nat → Prop) (f : Nat → Bs) (l : List Wt) (v : Value) (x : Lo) (b : Option Addr) (n c : Nat), qv = .pointer (some ⟨q, 0, none⟩) ∧ uv = .slice b n c ∧ gv = .int .i64 (x.g : Int) ∧ Hid (Cw w wx p F f l q v x (.slice b n c) x.ts))
  case first =>
    go_wp2_with fail
    go_loopw [6, 7, 8, 9, 10] (fun _ qv uv gv i wr => ∃ (k q : Nat) (F : Nat → Prop) (f : Nat → Bs) (l : List Wt) (v : Value) (x : Lo) (b : Option Addr) (n c : Nat), k ≤ len ∧ k ≤ 12 ∧ i = .int .i64 (k : Int) ∧ qv = .pointer (some ⟨q, 0, none⟩) ∧ uv = .slice b n c ∧ gv = .int .i64 (x.g : Int) ∧ x.g ≤ k + 1 ∧ Hid (Cw w wr p F f l q v x (.slice b n c) x.ts)) (fun _ _ _ _ i _ => 12 - (intOf i).toNat)
    case atStart =>
      obtain ⟨f3, K3⟩ := J3.out
      exact ⟨0, q3, F3, f3, [], v3, ⟨0, 1, []⟩, none, 0, 0, Nat.zero_le _, Nat.zero_le _, rfl, rfl, rfl, rfl, by show (1 : Nat) ≤ 0 + 1; decide, K3⟩
    case round =>
      obtain ⟨k, q, F, f, l, v, x, b, n, c, hkl, hk12, rfl, rfl, rfl, rfl, hgk, I⟩ := hrel
      clear J3
      by_cases hl1 : k < len
      · have g1 : (k : Int) < (len : Int) := by omega
        by_cases hl2 : k < 12
        · have g2 : (k : Int) < 12 := by omega
          have hkk : k < ks.length := by have := HN.out; omega
          obtain ⟨bb, oo, rfl, c0⟩ := (h.out.later I.out.lu.hd_.dl.below rfl) k hkk
          obtain ⟨X, hX⟩ : ∃ X, ks[k] = X := ⟨_, rfl⟩
          rw [hX] at c0
          clear hX
          by_cases h0 : X.size = 0
          · obtain ⟨n1, n2⟩ := empty_is h0
            go_wp2
            go_roundw
            case rel => exact ⟨k + 1, q, F, f, l, v, x, b, n, c, by omega, by omega, rfl, rfl, rfl, rfl, by omega, I.out⟩
            case measure => simp [intOf]; omega
          · obtain ⟨n1, n2⟩ := full_is h0
            by_cases h2 : 200 < X.size
            · have g3 : (200 : Int) < (X.size : Int) := by omega
              go_wp2
              go_roundw
              case rel => exact ⟨k + 1, q, F, f, l, v, x, b, n, c, by omega, by omega, rfl, rfl, rfl, rfl, by omega, I.out⟩
              case measure => simp [intOf]; omega
            · have g3 : ¬ (200 : Int) < (X.size : Int) := by omega
              have hxs : X.size ≤ 2000 := by omega
              have AP : Hid _ := appendU w wr p F 120 f l q v x X (may_is (by omega) hxs) hk.out I.out.lu
              by_cases hf : 120 / 2 < x.tk + sn X.data.toList
              · rw [if_pos hf, if_pos hf] at AP
                clear hf
                go_wp2_with fail
                refine Calls.mono AP.out ?_
                rintro e w5 ⟨rfl, F5, f5, l5, v5, L5, -, -⟩
                have FF : Hid (Below w.heap.size w w5) := L5.hd_.dl.below
                clear L5 AP I
                go_wp2
                go_ret
                exact ⟨rfl, FF.out⟩
              · rw [if_neg hf, if_neg hf] at AP
                clear hf
                go_wp2_with fail
                refine Calls.mono AP.out ?_
                rintro e w5 ⟨rfl, F5, f5, l5, v5, L5, N5, B5⟩
                have hln := L5.tlen
                have hln2 : x.ts.length ≤ 512 := by
                  have e : (x.ts ++ [X.data.toList]).length ≤ 512 := hln
                  rw [List.length_append] at e
                  omega
                obtain ⟨a6, c6, w6, r6, K6⟩ := (I.out.log L5 N5 B5).app (by omega) X.data.toList
                have HG : Hid (∀ y : Lo, y = { x with ts := x.ts ++ [X.data.toList] } → y.g = x.g ∧ y.ts = x.ts ++ [X.data.toList]) := fun y e => by subst e; exact ⟨rfl, rfl⟩
                obtain ⟨y, hy⟩ : ∃ y : Lo, { x with ts := x.ts ++ [X.data.toList] } = y := ⟨_, rfl⟩
                rw [hy] at K6
                obtain ⟨hyg, hyt⟩ := HG.out y hy.symm
                rw [← hyt] at K6
                have hyl : y.ts.length = x.ts.length + 1 := by rw [hyt, List.length_append, List.length_singleton]
                obtain ⟨n6, hn6⟩ : ∃ n6, x.ts.length + 1 = n6 := ⟨_, rfl⟩
                rw [hn6] at hyl r6 K6
                have hn6b : n6 ≤ 513 := by omega
                have hn61 : 0 < n6 := by omega
                have RR : Hid ((Builtin.append_ #[22, 22] 22 #[.slice b n c, .slice (some ⟨w5.heap.size, 0, none⟩) 1 1]).run Tryd.prog (w5.alloc (.cells #[.string X] 9)) = .ok (.slice a6 n6 c6) w6) := r6
                have J6 : Hid (Cw w w6 p F5 f5 l5 q v5 y (.slice a6 n6 c6) y.ts) := K6
                have HYL : Hid (y.ts.length = n6) := hyl
                rw [← hyg] at hgk ⊢
                clear I HG hy hyg hyt hyl hn6 r6 K6 hln hln2 L5 N5 B5 AP
                by_cases hp : k < len1
                · have g4 : ¬ (len1 : Int) ≤ (k : Int) := by omega
                  have hp1 : k < ps.length := by have := HN1.out; omega
                  obtain ⟨b1, o1, rfl, c1⟩ := (h1.out.later J6.out.lu.hd_.dl.below) k hp1
                  obtain ⟨P, hP⟩ : ∃ P, ps[k] = P := ⟨_, rfl⟩
                  rw [hP] at c1
                  clear hP
                  obtain ⟨m, hm, AM⟩ := lamong_is P 3 (by decide) (by decide)
                  have HAM : Hid (∀ w, Calls Tryd.prog 15 #[.int .i64 P, .int .i64 3] w fun e w' => e = .returned (.int .i64 (m : Int)) ∧ w' = w) := AM
                  clear AM
                  go_wp2_with (at_builtin; refine Go.Lib.wpList_append_run _ rfl _ _ _ _ rfl _ _ rfl rfl _ _ RR.out ?_)
                  refine Calls.mono (HAM.out _) ?_
                  rintro e w7 ⟨rfl, rfl⟩
                  clear RR HAM
                  by_cases hm0 : 0 < m
                  · have g5 : (0 : Int) < (m : Int) := by omega
                    go_wp2
                    go_roundw
                    case rel => exact ⟨k + 1, q, F5, f5, l5, v5, y, a6, n6, c6, by omega, by omega, rfl, rfl, rfl, rfl, by omega, J6.out⟩
                    case measure => simp [intOf]; omega
                  · have g5 : ¬ (0 : Int) < (m : Int) := by omega
                    obtain ⟨j, hj, AM⟩ := lamong_is P (n6 + 1) (by omega) (by omega)
                    have c9 : (w7.alloc (.cells #[] 9)).cell? ⟨b1, o1 + k, none⟩ = some (.int .i64 P) := by
                      rw [World.cell?_alloc_past _ _ _ (World.block_lt_of_cell? _ _ c1)]
                      exact c1
                    have HAM : Hid (∀ w, Calls Tryd.prog 15 #[.int .i64 P, .int .i64 ((n6 : Int) + 1)] w fun e w' => e = .returned (.int .i64 (j : Int)) ∧ w' = w) := AM
                    have z1 : IntKind.i64.wrap ((n6 : Int) + 1) = (n6 : Int) + 1 := by rw [IntKind.wrap_i64]; omega
                    obtain ⟨a2, c2, a8, c8, w8, SL, r8, K8⟩ := J6.out.drop HYL.out hn61 (by omega) j (by omega)
                    have R8 : Hid _ := r8
                    have hus : (y.ts.drop j).length = n6 - j := by rw [List.length_drop, HYL.out]
                    have hok : ∀ t ∈ y.ts.drop j, 1 ≤ t.length ∧ t.length ≤ 2000 := fun t ht => J6.out.lu.ok t (List.mem_of_mem_drop ht)
                    have hsn : 1 + sns (y.ts.drop j) ≤ 120 / 2 := by
                      have e1 := sns_drop y.ts j
                      have e2 : tkn 1 y.ts ≤ 120 / 2 := J6.out.lu.tk
                      rw [tkn_sns] at e2
                      omega
                    obtain ⟨us, hu⟩ : ∃ us, y.ts.drop j = us := ⟨_, rfl⟩
                    obtain ⟨n8, hn8⟩ : ∃ n8, n6 - j = n8 := ⟨_, rfl⟩
                    rw [hu] at hus hok hsn K8
                    rw [hn8] at hus SL R8 K8
                    obtain ⟨G, hG⟩ : ∃ G, y.g + 1 = G := ⟨_, rfl⟩
                    have z2 : IntKind.i64.wrap ((y.g : Int) + 1) = (G : Int) := by rw [IntKind.wrap_i64]; omega
                    have CC := compactC w w8 p F5 f5 l5 q v5 y a8 n8 c8 us hus hok hsn (by omega) hk.out K8
                    rw [hG] at CC
                    have HC : Hid _ := CC
                    have hGk : G ≤ k + 2 := by omega
                    clear AM r8 K8 hus hok hsn hu hn8 hG CC J6 HYL c1 c0
                    go_wp2_with fail
                    refine Calls.mono (HAM.out _) ?_
                    rintro e w9 ⟨rfl, rfl⟩
                    clear HAM
                    go_wp2_with (at_builtin; refine Go.Lib.wpList_append_run _ rfl _ _ _ _ rfl _ _ rfl rfl _ _ R8.out ?_)
                    refine Calls.mono HC.out ?_
                    rintro e w10 ⟨rfl, F10, K10⟩
                    have J10 : Hid _ := K10
                    clear HC R8 K10 SL
                    go_wp2_with fail
                    refine Calls.mono (crashC w w10 p F10 _ _ G us _ J10.out) ?_
                    rintro e w11 ⟨rfl, F11, K11⟩
                    have J11 : Hid _ := K11
                    clear J10 K11
                    go_wp2_with fail
                    refine Calls.mono (openC w w11 p F11 _ _ G us _ hk.out J11.out) ?_
                    rintro e w12 ⟨q12, v12, F12, f12, l12, rfl, K12⟩
                    have J12 : Hid _ := K12
                    clear J11 K12
                    have GG : Hid (Calls Tryd.prog 14 #[.pointer (some ⟨q12, 0, none⟩)] w12 fun e w' => e = .returned (.int .i64 (G : Int)) ∧ w' = w12) := generationU w w12 p F12 120 f12 l12 q12 v12 _ J12.out.lu
                    go_wp2_with fail
                    refine Calls.mono GG.out ?_
                    rintro e w13 ⟨rfl, rfl⟩
                    clear GG
                    go_wp2_with fail
                    refine Calls.mono (recordsC w w13 p F12 f12 l12 q12 v12 _ a8 n8 c8 us rfl J12.out) ?_
                    rintro e w14 ⟨a14, k14, c14, rfl, -, S14⟩
                    have HS : Hid _ := S14
                    clear S14 J12
                    go_wp2_with fail
                    refine Calls.mono HS.out ?_
                    rintro e w15 ⟨rfl, K15⟩
                    have J15 : Hid _ := K15
                    clear HS K15
                    go_wp2
                    go_roundw
                    case rel => exact ⟨k + 1, q12, F12, f12, l12, v12, ⟨1 - y.h, G, us⟩, a8, n8, c8, by omega, by omega, rfl, rfl, rfl, rfl, by show G ≤ k + 1 + 1; omega, J15.out⟩
                    case measure => simp [intOf]; omega
                · have g4 : (len1 : Int) ≤ (k : Int) := by omega
                  go_wp2_with (at_builtin; refine Go.Lib.wpList_append_run _ rfl _ _ _ _ rfl _ _ rfl rfl _ _ RR.out ?_)
                  go_roundw
                  case rel => exact ⟨k + 1, q, F5, f5, l5, v5, y, a6, n6, c6, by omega, by omega, rfl, rfl, rfl, rfl, by omega, J6.out⟩
                  case measure => simp [intOf]; omega
        · have g2 : ¬ (k : Int) < 12 := by omega
          go_wp2
          go_meet
          case rel => exact ⟨q, F, f, l, v, x, b, n, c, rfl, rfl, rfl, I.out⟩
      · have g1 : ¬ (k : Int) < (len : Int) := by omega
        go_wp2
        go_meet
        case rel => exact ⟨q, F, f, l, v, x, b, n, c, rfl, rfl, rfl, I.out⟩
  case rest =>
    obtain ⟨q, F, f, l, v, x, b, n, c, rfl, rfl, rfl, I⟩ := hcut
    clear J3
    go_wp2_with fail
    refine Calls.mono (recordsC w wc p F f l q v x b n c x.ts rfl I.out) ?_
    rintro e w14 ⟨a14, k14, c14, rfl, -, S14⟩
    have HS : Hid _ := S14
    clear S14 I
    go_wp2_with fail
    refine Calls.mono HS.out ?_
    rintro e w15 ⟨rfl, K15⟩
    have J15 : Hid _ := K15
    clear HS K15
    have GG : Hid (Calls Tryd.prog 14 #[.pointer (some ⟨q, 0, none⟩)] w15 fun e w' => e = .returned (.int .i64 (x.g : Int)) ∧ w' = w15) := generationU w w15 p F 120 f l q v _ J15.out.lu
    go_wp2_with fail
    refine Calls.mono GG.out ?_
    rintro e w16 ⟨rfl, rfl⟩
    have FF : Hid (Below w.heap.size w w16) := J15.out.lu.hd_.dl.below
    clear J15 GG
    go_wp2
    go_ret
    exact ⟨rfl, FF.out⟩
end Go.Proofs.YtdcimnmebgkmjaaDoor
