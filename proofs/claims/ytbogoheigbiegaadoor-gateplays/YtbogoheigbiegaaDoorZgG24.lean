/- Parts: MlN, MlP. -/
import Derived.Test.YtbogoheigbiegaaDoorZgG23
namespace Go.Proofs.Ml
theorem fit_of {l : List UInt8} (h : fitM l = true) : l.length = long (bn l 0) ∧ ((bn l 0 = 1 ∧ l.length = 505) ∨ (bn l 0 = 2 ∧ l.length = 38) ∨ (bn l 0 = 3 ∧ l.length = 962) ∨ (bn l 0 = 4 ∧ l.length = 102)) := by
  unfold fitM at h
  simp only [Bool.and_eq_true, decide_eq_true_eq, Bool.not_eq_true', decide_eq_false_iff_not] at h
  obtain ⟨h1, h2⟩ := h
  refine ⟨h2, ?_⟩
  have h3 : l.length ≠ 0 := fun z => h1 (List.length_eq_zero_iff.1 z)
  unfold long at h2
  by_cases k1 : bn l 0 = 1
  · rw [if_pos (by omega)] at h2; exact .inl ⟨k1, h2⟩
  · rw [if_neg (by omega)] at h2
    by_cases k2 : bn l 0 = 2
    · rw [if_pos (by omega)] at h2; exact .inr (.inl ⟨k2, h2⟩)
    · rw [if_neg (by omega)] at h2
      by_cases k3 : bn l 0 = 3
      · rw [if_pos (by omega)] at h2; exact .inr (.inr (.inl ⟨k3, h2⟩))
      · rw [if_neg (by omega)] at h2
        by_cases k4 : bn l 0 = 4
        · rw [if_pos (by omega)] at h2; exact .inr (.inr (.inr ⟨k4, h2⟩))
        · rw [if_neg (by omega)] at h2; exact absurd h2 h3
def dm (l : List UInt8) : Ml := if decB l = true then rd l else zm
def de (l : List UInt8) : Int := if decB l = true then 0 else 110
theorem rdW_1 (I : List UInt8 → List ByteArray) {l : List UInt8} (h : bn l 0 = 1) : rdW I l = ⟨1, 0, 0, mk (l.drop 1), e0, [], []⟩ := if_pos h
theorem rdW_2 (I : List UInt8 → List ByteArray) {l : List UInt8} (h : bn l 0 = 2) : rdW I l = ⟨2, bn l 1, rSeq l, e0, mk (l.drop 6), [], []⟩ := by unfold rdW; rw [if_neg (by omega), if_pos h]
theorem rdW_3 (I : List UInt8 → List ByteArray) {l : List UInt8} (h : bn l 0 = 3) : rdW I l = ⟨3, bn l 1, rSeq l, e0, e0, rSlots 4 (l.drop 6), []⟩ := by unfold rdW; rw [if_neg (by omega), if_neg (by omega), if_pos h]
theorem rdW_4 (I : List UInt8 → List ByteArray) {l : List UInt8} (h : bn l 0 = 4) : rdW I l = ⟨4, bn l 1, rSeq l, e0, mk ((l.drop 6).take 32), [], I (l.drop 38)⟩ := by unfold rdW; rw [if_neg (by omega), if_neg (by omega), if_neg (by omega)]
end Go.Proofs.Ml
namespace Go.Proofs.YtbogoheigbiegaaDoor.Mai
open Go.RowKit Go.Proofs.Fd Go.Proofs.Ml
set_option maxRecDepth 20000
def MlV (w : World) (v : Value) (m : Ml) : Prop := ∃ a n c a2 n2 c2, v = mv m.k m.u m.q m.t m.g a n c a2 n2 c2 ∧ Lists w a n c a2 n2 c2 m.sl m.ids
theorem MlV.later {w w' : World} {v : Value} {m : Ml} (h : MlV w v m) (hb : Below w.heap.size w w') : MlV w' v m := by
  obtain ⟨a, n, c, a2, n2, c2, e, L⟩ := h
  exact ⟨a, n, c, a2, n2, c2, e, L.later hb⟩
theorem MlV.zero (w : World) : MlV w (mv 0 0 0 ⟨#[]⟩ ⟨#[]⟩ none 0 0 none 0 0) zm := ⟨none, 0, 0, none, 0, 0, rfl, Lists.zero w⟩
def MlO (B : Nat) (w : World) (v : Value) (m : Ml) : Prop := ∃ a n c a2 n2 c2, v = mv m.k m.u m.q m.t m.g a n c a2 n2 c2 ∧ Lists w a n c a2 n2 c2 m.sl m.ids ∧ (∀ x, a = some x → B ≤ x.block) ∧ ∀ x, a2 = some x → B ≤ x.block
theorem MlO.v {B : Nat} {w : World} {v : Value} {m : Ml} (h : MlO B w v m) : MlV w v m := by
  obtain ⟨a, n, c, a2, n2, c2, e, L, -⟩ := h
  exact ⟨a, n, c, a2, n2, c2, e, L⟩
theorem read_any (s : ByteArray) (h : fitM (by' s) = true) (w : World) :
    Calls Tryd.prog 43 #[.string s] w fun e w' => ∃ v, e = .returned v ∧ MlO w.heap.size w' v (rd (by' s)) ∧ Below w.heap.size w w' := by
  obtain ⟨-, ⟨k, l⟩ | ⟨k, l⟩ | ⟨k, l⟩ | ⟨k, l⟩⟩ := fit_of h <;> rw [by_len] at l
  · refine Calls.mono (read_packet s l k w) ?_
    rintro e w' ⟨rfl, hb⟩
    refine ⟨_, rfl, ?_, hb⟩
    unfold rd
    rw [rdW_1 _ k]
    exact ⟨none, 0, 0, none, 0, 0, rfl, Lists.zero _, fun x h => (by cases h), fun x h => (by cases h)⟩
  · refine Calls.mono (read_2 s l k w) ?_
    rintro e w' ⟨rfl, hb⟩
    refine ⟨_, rfl, ?_, hb⟩
    unfold rd
    rw [rdW_2 _ k]
    exact ⟨none, 0, 0, none, 0, 0, rfl, Lists.zero _, fun x h => (by cases h), fun x h => (by cases h)⟩
  · refine Calls.mono (read_3 s l k w) ?_
    rintro e w' ⟨b, rfl, hr, hn, hb⟩
    refine ⟨_, rfl, ?_, hb⟩
    unfold rd
    rw [rdW_3 _ k]
    exact ⟨_, 4, 4, none, 0, 0, rfl, ⟨hr.2, StrAt.nil _ _, rSlots_len _ _, rfl, fun h => (by cases h), fun _ => ⟨rfl, rfl⟩, by decide, by decide⟩, fun x h => (by cases h; exact hn), fun x h => (by cases h)⟩
  · refine Calls.mono (read_4 s l k w) ?_
    rintro e w' ⟨a2, c2, rfl, hr, hn, hb⟩
    refine ⟨_, rfl, ?_, hb⟩
    unfold rd
    rw [rdW_4 _ k]
    exact ⟨none, 0, 0, a2, _, c2, rfl, hr, fun x h => (by cases h), hn⟩
theorem res_decode (tmps : Array Value) (w : World) (b : Nat) (k u q : Int) (t g : ByteArray) (a : Option Addr) (n c : Nat) (a2 : Option Addr) (n2 c2 : Nat) (e : Int) (h2 : tmps.getD 2 undef = .pointer (some ⟨b, 0, none⟩)) (h3 : tmps.getD 3 undef = .int .i64 e) (l : MlAt w b k u q t g a n c a2 n2 c2) :
    (results Tryd.f24 tmps).run Tryd.prog w = .ok (.tuple #[mv k u q t g a n c a2 n2 c2, .int .i64 e]) w := by
  have l1 := run_loadVar_mid (P := Tryd.prog) w b 0 38 _ _ l.range Tryd.underlying38 rfl (by kernel_rfl)
  unfold results
  rw [Tryd.results24]
  have h2' : tmps[2]?.getD undef = .pointer (some ⟨b, 0, none⟩) := by simpa using h2
  have h3' : tmps[3]?.getD undef = .int .i64 e := by simpa using h3
  simp [h2', h3', l1, asAddr]
theorem Lists.other {w : World} {a : Option Addr} {n c : Nat} {a2 : Option Addr} {n2 c2 : Nat} {ss : List Sl} {is : List ByteArray} (h : Lists w a n c a2 n2 c2 ss is) {p : Addr} (h1 : ∀ x, a = some x → p.block ≠ x.block) (h2 : ∀ x, a2 = some x → p.block ≠ x.block) (v : Value) : Lists (w.setCell p v) a n c a2 n2 c2 ss is :=
  ⟨fun i hi => by
    obtain ⟨b, o, e, c0, c1⟩ := h.s i hi
    exact ⟨b, o, e, cell_setCell c0 (h1 ⟨b, o, none⟩ e), cell_setCell c1 (h1 ⟨b, o, none⟩ e)⟩, h.i.other h2 v, h.ls, h.li, h.zs, h.zi, h.ms, h.mi⟩
theorem lists_whole {w : World} {a : Option Addr} {n c : Nat} {a2 : Option Addr} {n2 c2 : Nat} {ss : List Sl} {is : List ByteArray} {b : Nat} (h : Lists w a n c a2 n2 c2 ss is) (h1 : ∀ x, a = some x → b ≠ x.block) (h2 : ∀ x, a2 = some x → b ≠ x.block) (y0 y1 y2 y3 y4 y5 y6 : Value) :
    Lists (((((((w.setCell ⟨b, 0, none⟩ y0).setCell ⟨b, 1, none⟩ y1).setCell ⟨b, 2, none⟩ y2).setCell ⟨b, 3, none⟩ y3).setCell ⟨b, 4, none⟩ y4).setCell ⟨b, 5, none⟩ y5).setCell ⟨b, 6, none⟩ y6) a n c a2 n2 c2 ss is :=
  ((((((h.other (p := ⟨b, 0, none⟩) h1 h2 _).other (p := ⟨b, 1, none⟩) h1 h2 _).other (p := ⟨b, 2, none⟩) h1 h2 _).other (p := ⟨b, 3, none⟩) h1 h2 _).other (p := ⟨b, 4, none⟩) h1 h2 _).other (p := ⟨b, 5, none⟩) h1 h2 _).other (p := ⟨b, 6, none⟩) h1 h2 _
theorem zero_store {w : World} {b : Nat} (h : MlAt w b 0 0 0 ⟨#[]⟩ ⟨#[]⟩ none 0 0 none 0 0) : MlAt (((((((w.setCell ⟨b, 0, none⟩ (.int .i64 0)).setCell ⟨b, 1, none⟩ (.int .i64 0)).setCell ⟨b, 2, none⟩ (.int .i64 0)).setCell ⟨b, 3, none⟩ (.string ⟨#[]⟩)).setCell ⟨b, 4, none⟩ (.string ⟨#[]⟩)).setCell ⟨b, 5, none⟩ (.slice none 0 0)).setCell ⟨b, 6, none⟩ (.slice none 0 0)) b 0 0 0 ⟨#[]⟩ ⟨#[]⟩ none 0 0 none 0 0 := h.whole _ _ _ _ _ _ _ _ _ _ _
set_option maxHeartbeats 2000000 in
theorem decode_unfit (s : ByteArray) (h : fitM (by' s) = false) (hz : s.size ≤ 140737488355328) (w : World) :
    Calls Tryd.prog 24 #[.string s] w fun e w' => e = .returned (.tuple #[mv 0 0 0 ⟨#[]⟩ ⟨#[]⟩ none 0 0 none 0 0, .int .i64 110]) ∧ Below w.heap.size w w' := by
  by_cases h0 : s.size = 0
  · obtain rfl := nil_of h0
    unfold e0
    clear h h0 hz
    go_enter Tryd.func24, Tryd.ntmps24
    go_wp2
    refine bodyPost_ret (v := .tuple #[mv 0 0 0 ⟨#[]⟩ ⟨#[]⟩ none 0 0 none 0 0, .int .i64 110]) ?_ rfl ⟨rfl, (Below.refl _ _).alloc (Nat.le_refl _) _⟩
    exact res_decode _ _ w.heap.size _ _ _ _ _ _ _ _ _ _ _ _ (by kernel_rfl) (by kernel_rfl) (MlAt.new _ _ _ _ _ _ _ _ _ _ _ _ _)
  · have z1 : (s.toList == []) = false := by rw [size_toList, decide_eq_false h0]
    have g0 : 0 < s.size := by omega
    have g0' : (0 : Int) < (s.size : Int) := by omega
    have b0 := get_bn s 0 g0
    have t0 : bn (by' s) 0 < 256 := ((by' s).getD 0 0).toNat_lt
    obtain ⟨x, hx⟩ : ∃ x : Int, (s[0].toNat : Int) = x := ⟨_, rfl⟩
    have e0' : (bn (by' s) 0 : Int) = x := by rw [← b0]; exact hx
    have v0 : wrap64 x = x := by unfold wrap64; omega
    have v1 : IntKind.i64.wrap x = x := by rw [IntKind.wrap_i64]; omega
    have LN : ((s.size : Int) != (long x : Int)) = true := by
      rw [bne_iff_ne]
      intro z
      have : fitM (by' s) = true := by
        unfold fitM
        rw [decide_eq_false (fun q => h0 (by rw [← by_len, q]; rfl)), decide_eq_true (by rw [by_len, e0']; omega)]
        rfl
      rw [this] at h
      cases h
    have ne : ¬ (s.size : Int) = (long x : Int) := by simpa using LN
    clear h h0 hz b0 t0 e0'
    go_enter Tryd.func24, Tryd.ntmps24
    go_wp2_with fail
    refine Calls.mono (mlong_any x _) ?_
    rintro e w1 ⟨rfl, hw1⟩
    have hw2 := hw1.symm
    subst hw2
    clear hw1
    go_wp2
    refine bodyPost_ret (v := .tuple #[mv 0 0 0 ⟨#[]⟩ ⟨#[]⟩ none 0 0 none 0 0, .int .i64 110]) ?_ rfl ⟨rfl, (Below.refl _ _).alloc (Nat.le_refl _) _⟩
    exact res_decode _ _ w.heap.size _ _ _ _ _ _ _ _ _ _ _ _ (by kernel_rfl) (by kernel_rfl) (MlAt.new _ _ _ _ _ _ _ _ _ _ _ _ _)
set_option maxHeartbeats 2000000 in
theorem decode_fit (s : ByteArray) (h : fitM (by' s) = true) (w : World) :
    Calls Tryd.prog 24 #[.string s] w fun e w' => ∃ v, e = .returned (.tuple #[v, .int .i64 (de (by' s))]) ∧ MlV w' v (dm (by' s)) ∧ Below w.heap.size w w' := by
  obtain ⟨hl, hk⟩ := fit_of h
  rw [by_len] at hl hk
  have h0 : s.size ≠ 0 := by omega
  have z1 : (s.toList == []) = false := by rw [size_toList, decide_eq_false h0]
  have g0 : 0 < s.size := by omega
  have g0' : (0 : Int) < (s.size : Int) := by omega
  have b0 := get_bn s 0 g0
  have t0 : bn (by' s) 0 < 256 := ((by' s).getD 0 0).toNat_lt
  obtain ⟨x, hx⟩ : ∃ x : Int, (s[0].toNat : Int) = x := ⟨_, rfl⟩
  have e0' : (bn (by' s) 0 : Int) = x := by rw [← b0]; exact hx
  have v0 : wrap64 x = x := by unfold wrap64; omega
  have v1 : IntKind.i64.wrap x = x := by rw [IntKind.wrap_i64]; omega
  have LN : long x = s.size := by rw [← e0', ← hl]
  have RD := read_any s h
  have DM : Hid (decB (by' s) = (okB (rd (by' s)) && decide (txt (rd (by' s)) = by' s))) := by
    show _ = _
    unfold decB
    rw [h]; rfl
  have B0 : Hid (∀ o, Below w.heap.size w (w.alloc o)) := fun o => (Below.refl _ _).alloc (Nat.le_refl _) o
  clear hl hk h0 b0 t0 e0' h
  go_enter Tryd.func24, Tryd.ntmps24
  go_wp2_with fail
  refine Calls.mono (mlong_any x _) ?_
  rintro e w1 ⟨rfl, hw1⟩
  have hw2 := hw1.symm
  subst hw2
  clear hw1
  rw [LN]
  go_wp2_with fail
  refine Calls.mono (RD _) ?_
  rintro e w2 ⟨v, rfl, hv2, hb2⟩
  obtain ⟨a, n, c, a2, n2, c2, rfl, L2, N1, N2⟩ := hv2
  generalize hm : rd (by' s) = m at *
  obtain ⟨k, u, q, t, g, ss, is⟩ := m
  simp only at L2 DM ⊢
  have F2 : Hid (Below w.heap.size w w2 ∧ MlAt w2 w.heap.size 0 0 0 ⟨#[]⟩ ⟨#[]⟩ none 0 0 none 0 0 ∧ Lists w2 a n c a2 n2 c2 ss is ∧ (∀ x, a = some x → w.heap.size ≠ x.block) ∧ ∀ x, a2 = some x → w.heap.size ≠ x.block) := by
    refine ⟨chain (B0.out _) hb2, (MlAt.new _ _ _ _ _ _ _ _ _ _ _ _ _).later hb2, L2, fun x hx => ?_, fun x hx => ?_⟩
    · have := N1 x hx; simp at this; omega
    · have := N2 x hx; simp at this; omega
  have HM : Hid (rd (by' s) = ⟨k, u, q, t, g, ss, is⟩) := hm
  clear hb2 L2 N1 N2 RD LN hm
  go_wp2_with fail
  obtain ⟨X, hX⟩ : ∃ X, w2.alloc (.cells #[.int .i64 k, .int .i64 u, .int .i64 q, .string t, .string g, .slice a n c, .slice a2 n2 c2] 38) = X := ⟨_, rfl⟩
  have F3 : Hid (Below w2.heap.size w2 X ∧ MlAt X w2.heap.size k u q t g a n c a2 n2 c2) := by
    rw [← hX]
    exact ⟨(Below.refl _ _).alloc (Nat.le_refl _) _, MlAt.new _ _ _ _ _ _ _ _ _ _ _ _ _⟩
  rw [hX]
  clear hX
  have gl : w.heap.size < w2.heap.size := F2.out.2.1.lt
  have n1 : ¬ w2.heap.size = w.heap.size := by omega
  have n2' : ¬ w.heap.size = w2.heap.size := by omega
  cases hok : okB ⟨k, u, q, t, g, ss, is⟩ with
  | false =>
    refine Calls.mono (encode_no k u q t g a n c a2 n2 c2 ss is hok X (F2.out.2.2.1.later F3.out.1)) ?_
    rintro e w3 ⟨rfl, hb3⟩
    have F4 : Hid (Below w.heap.size w w3 ∧ MlAt w3 w.heap.size 0 0 0 ⟨#[]⟩ ⟨#[]⟩ none 0 0 none 0 0) := ⟨chain (chain F2.out.1 F3.out.1) hb3, (F2.out.2.1.later F3.out.1).later hb3⟩
    have ED : Hid (de (by' s) = 110 ∧ dm (by' s) = zm) := by
      have e : decB (by' s) = false := by rw [DM.out, hok]; rfl
      unfold de dm
      rw [e]; exact ⟨rfl, rfl⟩
    clear hb3 F3 F2
    obtain ⟨f, p0, p1, p2, p3, p4, p5, p6⟩ := F4.out.2
    go_wp2
    refine bodyPost_ret (v := .tuple #[mv 0 0 0 ⟨#[]⟩ ⟨#[]⟩ none 0 0 none 0 0, .int .i64 110]) ?_ rfl ⟨mv 0 0 0 ⟨#[]⟩ ⟨#[]⟩ none 0 0 none 0 0, by rw [ED.out.1], by rw [ED.out.2]; exact MlV.zero _, below_whole F4.out.1 (Nat.le_refl _) _ _ _ _ _ _ _⟩
    exact res_decode _ _ w.heap.size _ _ _ _ _ _ _ _ _ _ _ _ (by kernel_rfl) (by kernel_rfl) (zero_store F4.out.2)
  | true =>
    refine Calls.mono (encode_ok k u q t g a n c a2 n2 c2 ss is hok X (F2.out.2.2.1.later F3.out.1)) ?_
    rintro e w3 ⟨rfl, hb3⟩
    have F4 : Hid (Below w.heap.size w w3 ∧ MlAt w3 w.heap.size 0 0 0 ⟨#[]⟩ ⟨#[]⟩ none 0 0 none 0 0 ∧ MlAt w3 w2.heap.size k u q t g a n c a2 n2 c2 ∧ Lists w3 a n c a2 n2 c2 ss is ∧ (∀ x, a = some x → w.heap.size ≠ x.block) ∧ ∀ x, a2 = some x → w.heap.size ≠ x.block) := ⟨chain (chain F2.out.1 F3.out.1) hb3, (F2.out.2.1.later F3.out.1).later hb3, F3.out.2.later hb3, (F2.out.2.2.1.later F3.out.1).later hb3, F2.out.2.2.2⟩
    clear hb3 F3 F2
    obtain ⟨f, p0, p1, p2, p3, p4, p5, p6⟩ := F4.out.2.1
    obtain ⟨-, q0, q1, q2, q3, q4, q5, q6⟩ := F4.out.2.2.1
    obtain ⟨T, hT⟩ : ∃ T, mk (txt ⟨k, u, q, t, g, ss, is⟩) = T := ⟨_, rfl⟩
    rw [hT]
    by_cases hs : txt ⟨k, u, q, t, g, ss, is⟩ = by' s
    · have hTs : T = s := by rw [← hT, hs]; rfl
      subst hTs
      have ED : Hid (de (by' T) = 0 ∧ dm (by' T) = ⟨k, u, q, t, g, ss, is⟩) := by
        have e : decB (by' T) = true := by rw [DM.out, hok, decide_eq_true hs]; rfl
        unfold de dm
        rw [e, HM.out]; exact ⟨rfl, rfl⟩
      have YY : (T.toList == T.toList) = true := by simp
      clear hT hs hok HM DM
      go_wp2
      refine bodyPost_ret (v := .tuple #[mv k u q t g a n c a2 n2 c2, .int .i64 0]) ?_ rfl ⟨mv k u q t g a n c a2 n2 c2, by rw [ED.out.1], by rw [ED.out.2]; exact ⟨a, n, c, a2, n2, c2, rfl, lists_whole F4.out.2.2.2.1 F4.out.2.2.2.2.1 F4.out.2.2.2.2.2 _ _ _ _ _ _ _⟩, below_whole F4.out.1 (Nat.le_refl _) _ _ _ _ _ _ _⟩
      exact res_decode _ _ w.heap.size _ _ _ _ _ _ _ _ _ _ _ _ (by kernel_rfl) (by kernel_rfl) (F4.out.2.1.whole _ _ _ _ _ _ _ _ _ _ _)
    · have NN : (T.toList == s.toList) = false := by
        rw [beq_eq_false_iff_ne, toList_by, toList_by, ← hT, by_mk]; exact hs
      have ED : Hid (de (by' s) = 110 ∧ dm (by' s) = zm) := by
        have e : decB (by' s) = false := by rw [DM.out, hok, decide_eq_false hs]; rfl
        unfold de dm
        rw [e]; exact ⟨rfl, rfl⟩
      clear hT hs hok HM DM
      go_wp2
      refine bodyPost_ret (v := .tuple #[mv 0 0 0 ⟨#[]⟩ ⟨#[]⟩ none 0 0 none 0 0, .int .i64 110]) ?_ rfl ⟨mv 0 0 0 ⟨#[]⟩ ⟨#[]⟩ none 0 0 none 0 0, by rw [ED.out.1], by rw [ED.out.2]; exact MlV.zero _, below_whole F4.out.1 (Nat.le_refl _) _ _ _ _ _ _ _⟩
      exact res_decode _ _ w.heap.size _ _ _ _ _ _ _ _ _ _ _ _ (by kernel_rfl) (by kernel_rfl) (zero_store F4.out.2.1)
theorem decode_any (s : ByteArray) (hz : s.size ≤ 140737488355328) (w : World) :
    Calls Tryd.prog 24 #[.string s] w fun e w' => ∃ v, e = .returned (.tuple #[v, .int .i64 (de (by' s))]) ∧ MlV w' v (dm (by' s)) ∧ Below w.heap.size w w' := by
  cases h : fitM (by' s) with
  | true => exact decode_fit s h w
  | false =>
    refine Calls.mono (decode_unfit s h hz w) ?_
    rintro e w' ⟨rfl, hb⟩
    have q : decB (by' s) = false := by unfold decB; rw [h]; rfl
    have E : de (by' s) = 110 ∧ dm (by' s) = zm := by unfold de dm; rw [q]; exact ⟨rfl, rfl⟩
    rw [E.1, E.2]
    exact ⟨_, rfl, MlV.zero _, hb⟩
end Go.Proofs.YtbogoheigbiegaaDoor.Mai
namespace Go.Proofs.YtbogoheigbiegaaDoor.Mai
open Go.RowKit Go.Proofs.Fd Go.Proofs.Ml
set_option maxRecDepth 20000
set_option maxHeartbeats 1000000 in
theorem sameTexts_yes (a : Option Addr) (n c : Nat) (b : Option Addr) (c' : Nat) (is : List ByteArray) (hn : Hid (is.length = n)) (hm : n ≤ 9223372036854775807) (w : World) (h1 : Hid (StrAt w a is)) (h2 : Hid (StrAt w b is)) :
    Calls Tryd.prog 37 #[.slice a n c, .slice b n c'] w fun e w' => e = .returned (.bool true) ∧ Below w.heap.size w w' := by
  go_enter Tryd.func37, Tryd.ntmps37
  go_wp2
  go_loopw [5] (fun i wr => ∃ k : Nat, k ≤ n ∧ i = .int .i64 (k : Int) ∧ Hid (Below w.heap.size w wr)) (fun i _ => n - (intOf i).toNat)
  case atStart => exact ⟨0, Nat.zero_le _, rfl, Below.refl _ _⟩
  case round =>
    obtain ⟨k, hk, rfl, I⟩ := hrel
    by_cases hlt : k < n
    · have g1 : (k : Int) < (n : Int) := by omega
      have hk' : k < is.length := by rw [hn.out]; exact hlt
      obtain ⟨b1, o1, rfl, x1⟩ := h1.out.later I.out rfl k hk'
      obtain ⟨b2, o2, rfl, x2⟩ := h2.out.later I.out rfl k hk'
      obtain ⟨x, hx⟩ : ∃ x, is[k] = x := ⟨_, rfl⟩
      rw [hx] at x1 x2
      have YY : (x.toList == x.toList) = true := by simp
      have gk : k < n := hlt
      clear hx
      go_wp2_with fail
      go_quiet (fail)
      have I2 : Hid (Below w.heap.size w (wr.drewN nq)) := below_drewN I.out _
      clear x1 x2 I
      go_wp2
      go_roundw
      case rel => exact ⟨k + 1, by omega, by go_num, I2.out⟩
      case measure => simp [intOf]; omega
    · obtain rfl : k = n := by omega
      go_wp2
      go_ret
      exact ⟨rfl, I.out⟩
set_option maxHeartbeats 1000000 in
theorem sameSlots_yes (a : Option Addr) (n c : Nat) (b : Option Addr) (c' : Nat) (ss : List Sl) (hn : Hid (ss.length = n)) (hm : n ≤ 9223372036854775807) (w : World) (h1 : Hid (SlAt w a ss)) (h2 : Hid (SlAt w b ss)) :
    Calls Tryd.prog 36 #[.slice a n c, .slice b n c'] w fun e w' => e = .returned (.bool true) ∧ Below w.heap.size w w' := by
  go_enter Tryd.func36, Tryd.ntmps36
  go_wp2
  go_loopw [5] (fun i wr => ∃ k : Nat, k ≤ n ∧ i = .int .i64 (k : Int) ∧ Hid (Below w.heap.size w wr)) (fun i _ => n - (intOf i).toNat)
  case atStart => exact ⟨0, Nat.zero_le _, rfl, Below.refl _ _⟩
  case round =>
    obtain ⟨k, hk, rfl, I⟩ := hrel
    by_cases hlt : k < n
    · have g1 : (k : Int) < (n : Int) := by omega
      have hk' : k < ss.length := by rw [hn.out]; exact hlt
      obtain ⟨b1, o1, rfl, x1, y1⟩ := h1.out.later I.out k hk'
      obtain ⟨b2, o2, rfl, x2, y2⟩ := h2.out.later I.out k hk'
      generalize ss[k] = s at x1 y1 x2 y2
      obtain ⟨id, tx⟩ := s
      simp only at x1 y1 x2 y2
      have YY : (id.toList == id.toList) = true := by simp
      have ZZ : (tx.toList == tx.toList) = true := by simp
      have gk : k < n := hlt
      go_wp2_with fail
      go_quiet (fail)
      have I2 : Hid (Below w.heap.size w (wr.drewN nq)) := below_drewN I.out _
      clear x1 x2 y1 y2 I
      go_wp2
      go_roundw
      case rel => exact ⟨k + 1, by omega, by go_num, I2.out⟩
      case measure => simp [intOf]; omega
    · obtain rfl : k = n := by omega
      go_wp2
      go_ret
      exact ⟨rfl, I.out⟩
set_option maxHeartbeats 1000000 in
theorem sameMail_raw (k u q : Int) (t g : ByteArray) (a : Option Addr) (n c : Nat) (a2 : Option Addr) (n2 c2 : Nat) (b : Option Addr) (d : Nat) (b2 : Option Addr) (d2 : Nat) (ss : List Sl) (is : List ByteArray) (w : World) (L1 : Hid (Lists w a n c a2 n2 c2 ss is)) (L2 : Hid (Lists w b n d b2 n2 d2 ss is)) :
    Calls Tryd.prog 16 #[mv k u q t g a n c a2 n2 c2, mv k u q t g b n d b2 n2 d2] w fun e w' => e = .returned (.bool true) ∧ Below w.heap.size w w' := by
  have T1 : (t.toList == t.toList) = true := by simp
  have T2 : (g.toList == g.toList) = true := by simp
  go_enter Tryd.func16, Tryd.ntmps16
  go_wp2_with fail
  obtain ⟨X, hX⟩ : ∃ X, (w.alloc (.cells #[.int .i64 k, .int .i64 u, .int .i64 q, .string t, .string g, .slice a n c, .slice a2 n2 c2] 38)).alloc (.cells #[.int .i64 k, .int .i64 u, .int .i64 q, .string t, .string g, .slice b n d, .slice b2 n2 d2] 38) = X := ⟨_, rfl⟩
  have F0 : Hid (Below w.heap.size w X ∧ MlAt X w.heap.size k u q t g a n c a2 n2 c2 ∧ MlAt X (w.heap.size + 1) k u q t g b n d b2 n2 d2) := by
    rw [← hX]
    refine ⟨((Below.refl _ w).alloc (Nat.le_refl _) _).alloc (by simp) _, (MlAt.new w _ _ _ _ _ _ _ _ _ _ _ _).later ((Below.refl _ _).alloc (Nat.le_refl _) _), ?_⟩
    have := MlAt.new (w.alloc (.cells #[.int .i64 k, .int .i64 u, .int .i64 q, .string t, .string g, .slice a n c, .slice a2 n2 c2] 38)) 38 k u q t g b n d b2 n2 d2
    rw [show (w.alloc (.cells #[.int .i64 k, .int .i64 u, .int .i64 q, .string t, .string g, .slice a n c, .slice a2 n2 c2] 38)).heap.size = w.heap.size + 1 by simp] at this
    exact this
  rw [hX]
  clear hX
  refine Calls.mono (sameSlots_yes a n c b d ss L1.out.ls L1.out.ms X (L1.out.later F0.out.1).s (L2.out.later F0.out.1).s) ?_
  rintro e w1 ⟨rfl, hb1⟩
  have F1 : Hid (Below w.heap.size w w1 ∧ MlAt w1 w.heap.size k u q t g a n c a2 n2 c2 ∧ MlAt w1 (w.heap.size + 1) k u q t g b n d b2 n2 d2) := ⟨chain F0.out.1 hb1, F0.out.2.1.later hb1, F0.out.2.2.later hb1⟩
  clear hb1 F0
  obtain ⟨-, p0, p1, p2, p3, p4, p5, p6⟩ := F1.out.2.1
  obtain ⟨-, q0, q1, q2, q3, q4, q5, q6⟩ := F1.out.2.2
  go_wp2_with fail
  refine Calls.mono (sameTexts_yes a2 n2 c2 b2 d2 is L1.out.li L1.out.mi w1 (L1.out.later F1.out.1).i (L2.out.later F1.out.1).i) ?_
  rintro e w2 ⟨rfl, hb2⟩
  have F2 : Hid (Below w.heap.size w w2) := chain F1.out.1 hb2
  clear hb2 F1 p0 p1 p2 p3 p4 p5 p6 q0 q1 q2 q3 q4 q5 q6
  go_wp2
  go_ret
  exact ⟨rfl, F2.out⟩
theorem sameMail_yes (v v' : Value) (m : Ml) (w : World) (h1 : MlV w v m) (h2 : MlV w v' m) :
    Calls Tryd.prog 16 #[v, v'] w fun e w' => e = .returned (.bool true) ∧ Below w.heap.size w w' := by
  obtain ⟨a, n, c, a2, n2, c2, rfl, L⟩ := h1
  obtain ⟨b, n', d, b2, n2', d2, rfl, L'⟩ := h2
  obtain rfl : n' = n := L'.ls.symm.trans L.ls
  obtain rfl : n2' = n2 := L'.li.symm.trans L.li
  exact sameMail_raw m.k m.u m.q m.t m.g a n' c a2 n2' c2 b d b2 d2 m.sl m.ids w L L'
def enS (m : Ml) : ByteArray := if okB m = true then mk (txt m) else e0
theorem encode_any (k u q : Int) (t g : ByteArray) (a : Option Addr) (n c : Nat) (a2 : Option Addr) (n2 c2 : Nat) (ss : List Sl) (is : List ByteArray) (w : World) (L : Lists w a n c a2 n2 c2 ss is) :
    Calls Tryd.prog 23 #[mv k u q t g a n c a2 n2 c2] w fun e w' => e = .returned (.tuple #[.string (enS ⟨k, u, q, t, g, ss, is⟩), .int .i64 (chkE (okB ⟨k, u, q, t, g, ss, is⟩))]) ∧ Below w.heap.size w w' := by
  unfold enS
  cases h : okB ⟨k, u, q, t, g, ss, is⟩ with
  | true => exact encode_ok k u q t g a n c a2 n2 c2 ss is h w L
  | false => exact encode_no k u q t g a n c a2 n2 c2 ss is h w L
theorem z32 : mk (zr 32) = ⟨#[0, 0, 0, 0, 0, 0, 0, 0, 0, 0, 0, 0, 0, 0, 0, 0, 0, 0, 0, 0, 0, 0, 0, 0, 0, 0, 0, 0, 0, 0, 0, 0]⟩ := rfl
end Go.Proofs.YtbogoheigbiegaaDoor.Mai
