/- Parts: MlV, GtV. -/
import Derived.Test.YtbogoheigbiegaaDoorZgG32
import Derived.Test.YtbogoheigbiegaaDoorZgG33
import Derived.Test.YtbogoheigbiegaaDoorZgG27
namespace Go.Proofs.YtbogoheigbiegaaDoor.Mai
open Go.RowKit Go.Proofs.Fd Go.Proofs.Ml
set_option maxRecDepth 20000
def slcells (l : List Sl) : List Value := l.flatMap fun s => [.string s.id, .string s.tx]
theorem slcells_cons (s : Sl) (l : List Sl) : slcells (s :: l) = .string s.id :: .string s.tx :: slcells l := rfl
theorem slcells_len (l : List Sl) : (slcells l).length = l.length * 2 := by
  induction l with
  | nil => rfl
  | cons s l ih => rw [slcells_cons]; simp only [List.length_cons, ih]; omega
theorem slcells_at (l : List Sl) (i : Nat) (hi : i < l.length) : (slcells l)[i * 2]? = some (.string l[i].id) ∧ (slcells l)[i * 2 + 1]? = some (.string l[i].tx) := by
  induction l generalizing i with
  | nil => simp at hi
  | cons s l ih =>
    rw [slcells_cons]
    cases i with
    | zero => exact ⟨rfl, rfl⟩
    | succ i =>
      have := ih i (by simpa using hi)
      have e : (i + 1) * 2 = i * 2 + 2 := by omega
      rw [e]
      exact this
theorem slcells_one (l : List Sl) : ∀ u ∈ slcells l, u.oneCell' = true := by
  intro u hu
  unfold slcells at hu
  rw [List.mem_flatMap] at hu
  obtain ⟨h, -, hu⟩ := hu
  simp at hu
  rcases hu with rfl | rfl <;> rfl
theorem SlAt.each {w : World} {b o : Nat} {l : List Sl} (h : SlAt w (some ⟨b, o, none⟩) l) : ∀ j u, (slcells l)[j]? = some u → w.cell? (Addr.add ⟨b, o, none⟩ j) = some u := by
  intro j u hu
  have hj : j < l.length * 2 := by have := (List.getElem?_eq_some_iff.1 hu).1; rw [slcells_len] at this; exact this
  rw [add_at]
  obtain ⟨i, r, hr, rfl⟩ : ∃ i r, r < 2 ∧ j = i * 2 + r := ⟨j / 2, j % 2, by omega, by omega⟩
  obtain ⟨b', o', he, c0, c1⟩ := h i (by omega)
  cases he
  obtain ⟨g0, g1⟩ := slcells_at l i (by omega)
  rcases (by omega : r = 0 ∨ r = 1) with rfl | rfl
  · rw [Nat.add_zero] at hu; rw [g0] at hu; cases hu; exact c0
  · rw [g1] at hu; cases hu; rw [← Nat.add_assoc]; exact c1
theorem SlAt.where {w : World} {a : Addr} {l : List Sl} (h : SlAt w (some a) l) (h0 : 0 < l.length) : ∃ b o, a = ⟨b, o, none⟩ := by
  obtain ⟨b, o, e, -⟩ := h 0 h0
  injection e with e
  exact ⟨b, o, e⟩
theorem own_slAt {w : World} {base n : Nat} {v : Value} {l : List Sl} (h : w.ownsRow base 83 2 v n (slcells l)) : l.length = n ∧ ∃ a cap, v = .slice a n cap ∧ SlAt w a l ∧ (a = none → n = 0 ∧ cap = 0) ∧ ∀ x, a = some x → base ≤ x.block := by
  obtain ⟨h1, h2⟩ := h
  have hl : l.length = n := by rw [slcells_len] at h1; omega
  refine ⟨hl, ?_⟩
  rcases h2 with ⟨rfl, rfl⟩ | ⟨g, cap, cur, rfl, hb, hh, hcap, hml, -, ht⟩
  · exact ⟨none, 0, rfl, fun i hi => by omega, fun _ => ⟨rfl, rfl⟩, fun x h => (by cases h)⟩
  · refine ⟨_, cap, rfl, fun i hi => ⟨g, 0, rfl, ?_⟩, fun h => (by cases h), fun x h => (by cases h; exact hb)⟩
    have key : ∀ j, j < n * 2 → w.cell? ⟨g, 0 + j, none⟩ = (slcells l)[j]? := fun j hj => by
      have e : cur[j]? = (slcells l)[j]? := by
        rw [← ht, List.getElem?_take_of_lt hj]; simp
      rw [Nat.zero_add]
      unfold World.cell?
      rw [hh]
      simp only [Option.isSome_none]
      show cur[j]? = _
      rw [e]
    obtain ⟨g0, g1⟩ := slcells_at l i hi
    refine ⟨?_, ?_⟩
    · rw [key (i * 2) (by omega)]; exact g0
    · rw [Nat.add_assoc, key (i * 2 + 1) (by omega)]; exact g1
theorem infoSlot : (Tryd.prog.info? 83).map (fun i => (i.zero, i.size, i.bytes)) = some (some (.agg #[.string ⟨#[]⟩, .string ⟨#[]⟩]), 2, 32) := by kernel_rfl
theorem app_slots (w : World) (ty base : Nat) (v : Value) (m : Nat) (xs : List Value) (hown : w.ownsRow base 83 2 v m xs) (a : Option Addr) (ks : List Sl) (n cap : Nat) (hn : ks.length = n) (ha : a = none → n = 0 ∧ cap = 0) (hc : SlAt w a ks) (hz : (m + n) * 32 ≤ 140737488355328) (hb : base ≤ w.heap.size) :
    ∃ v' w', (Builtin.append_ #[35, 35] ty #[v, .slice a n cap]).run Tryd.prog w = .ok v' w' ∧ w'.ownsRow base 83 2 v' (m + n) (xs ++ slcells ks) ∧ w.grownBy w' v.ownBlock := by
  obtain ⟨i0, hi, hz0, hz1, hz2⟩ := info_parts infoSlot
  cases a with
  | none =>
    obtain ⟨rfl, rfl⟩ := ha rfl
    obtain rfl := List.length_eq_zero_iff.1 hn
    exact ⟨v, w, run_append_owned_none (P := Tryd.prog) w base 35 ty 83 i0 2 Tryd.underlying35 hi v m xs hown, by simpa [slcells] using hown, ⟨rfl, rfl, rfl, Nat.le_refl _, fun _ _ _ => rfl⟩⟩
  | some a =>
    have each : ∀ j u, (slcells ks)[j]? = some u → w.cell? (a.add j) = some u := by
      intro j u hu
      have h0 : 0 < ks.length := by
        have := (List.getElem?_eq_some_iff.1 hu).1
        rw [slcells_len] at this
        omega
      obtain ⟨b, o, rfl⟩ := hc.where h0
      exact hc.each j u hu
    obtain ⟨v', w', h1, h2, h3, -⟩ := run_append_own (P := Tryd.prog) w base 35 ty 83 i0 (.agg #[.string ⟨#[]⟩, .string ⟨#[]⟩]) 2 32 Tryd.underlying35 hi hz0 hz1 hz2 rfl (by decide) v m xs hown a n cap (slcells ks) (by rw [slcells_len, hn]) each (slcells_one ks) (by unfold maxLen; omega) hz hb
    exact ⟨v', w', h1, h2, h3⟩
theorem copy_slots (w : World) (ty : Nat) (a : Option Addr) (ks : List Sl) (n cap : Nat) (hn : ks.length = n) (ha : a = none → n = 0 ∧ cap = 0) (hc : SlAt w a ks) (hz : n * 32 ≤ 140737488355328) :
    ∃ v' w', (Builtin.append_ #[35, 35] ty #[.slice (some ⟨w.heap.size, 0, none⟩) 0 0, .slice a n cap]).run Tryd.prog (w.alloc (.cells #[] 83)) = .ok v' w' ∧ w'.ownsRow w.heap.size 83 2 v' n (slcells ks) ∧ Below w.heap.size w w' := by
  have hb : Below w.heap.size w (w.alloc (.cells #[] 83)) := (Below.refl _ _).alloc (Nat.le_refl _) _
  have o0 := World.ownsRow_made (base := w.heap.size) (e := 83) (size := 2) w #[] 0 (Nat.le_refl _) (Nat.zero_le _) rfl
  obtain ⟨v', w', h1, h2, h3⟩ := app_slots _ ty w.heap.size _ 0 [] o0 a ks n cap hn ha (hc.later hb) (by omega) (by simp)
  refine ⟨v', w', h1, by simpa using h2, hb.grown h3 (by simp) (fun k hk => (o0.lt k hk).1)⟩
theorem MlAt.put5 {w : World} {b : Nat} {k u q : Int} {t g : ByteArray} {a : Option Addr} {n c : Nat} {a2 : Option Addr} {n2 c2 : Nat} (h : MlAt w b k u q t g a n c a2 n2 c2) (a' : Option Addr) (n' c' : Nat) : MlAt (w.setCell ⟨b, 5, none⟩ (.slice a' n' c')) b k u q t g a' n' c' a2 n2 c2 := by
  obtain ⟨f, h0, h1, h2, h3, h4, h5, h6⟩ := h
  exact ⟨fun o => by simp [go_sem, f], by simp [go_sem, h0], by simp [go_sem, h1], by simp [go_sem, h2], by simp [go_sem, h3], by simp [go_sem, h4], by simp [go_sem, h5], by simp [go_sem, h6]⟩
theorem SlAt.other {w : World} {a : Option Addr} {l : List Sl} (h : SlAt w a l) {p : Addr} (hne : ∀ x, a = some x → p.block ≠ x.block) (v : Value) : SlAt (w.setCell p v) a l := fun i hi => by
  obtain ⟨b, o, e, c0, c1⟩ := h i hi
  exact ⟨b, o, e, cell_setCell c0 (hne ⟨b, o, none⟩ e), cell_setCell c1 (hne ⟨b, o, none⟩ e)⟩
theorem res_copy (tmps : Array Value) (w : World) (b : Nat) (k u q : Int) (t g : ByteArray) (a : Option Addr) (n c : Nat) (a2 : Option Addr) (n2 c2 : Nat) (h2 : tmps.getD 2 undef = .pointer (some ⟨b, 0, none⟩)) (l : MlAt w b k u q t g a n c a2 n2 c2) :
    (results Tryd.f13 tmps).run Tryd.prog w = .ok (mv k u q t g a n c a2 n2 c2) w := by
  have l1 := run_loadVar_mid (P := Tryd.prog) w b 0 38 _ _ l.range Tryd.underlying38 rfl (by kernel_rfl)
  unfold results
  rw [Tryd.results13]
  have h2' : tmps[2]?.getD undef = .pointer (some ⟨b, 0, none⟩) := by simpa using h2
  simp [h2', l1, asAddr]
set_option maxHeartbeats 2000000 in
theorem copyMail_any (k u q : Int) (t g : ByteArray) (a : Option Addr) (n c : Nat) (a2 : Option Addr) (n2 c2 : Nat) (ss : List Sl) (is : List ByteArray) (zs : n * 32 ≤ 140737488351232) (zi : n2 * 16 ≤ 140737488351232) (w : World) (L : Hid (Lists w a n c a2 n2 c2 ss is)) :
    Calls Tryd.prog 13 #[mv k u q t g a n c a2 n2 c2] w fun e w' => ∃ a' c' a2' c2', e = .returned (mv k u q t g a' n c' a2' n2 c2') ∧ Lists w' a' n c' a2' n2 c2' ss is ∧ Below w.heap.size w w' := by
  obtain ⟨X, hX, F0⟩ : ∃ X, (w.alloc (.cells #[.int .i64 k, .int .i64 u, .int .i64 q, .string t, .string g, .slice a n c, .slice a2 n2 c2] 38)).alloc (.cells #[.int .i64 0, .int .i64 0, .int .i64 0, .string ⟨#[]⟩, .string ⟨#[]⟩, .slice none 0 0, .slice none 0 0] 38) = X ∧ Hid (Below w.heap.size w X ∧ MlAt X w.heap.size k u q t g a n c a2 n2 c2 ∧ MlAt X (w.heap.size + 1) 0 0 0 ⟨#[]⟩ ⟨#[]⟩ none 0 0 none 0 0) := by
    refine ⟨_, rfl, ((Below.refl _ w).alloc (Nat.le_refl _) _).alloc (by simp) _, (MlAt.new w _ _ _ _ _ _ _ _ _ _ _ _).later ((Below.refl _ _).alloc (Nat.le_refl _) _), ?_⟩
    have := MlAt.new (w.alloc (.cells #[.int .i64 k, .int .i64 u, .int .i64 q, .string t, .string g, .slice a n c, .slice a2 n2 c2] 38)) 38 0 0 0 ⟨#[]⟩ ⟨#[]⟩ none 0 0 none 0 0
    rw [show (w.alloc (.cells #[.int .i64 k, .int .i64 u, .int .i64 q, .string t, .string g, .slice a n c, .slice a2 n2 c2] 38)).heap.size = w.heap.size + 1 by simp] at this
    exact this
  have gX : w.heap.size + 1 < X.heap.size := F0.out.2.2.lt
  obtain ⟨v1, w1, r1, o1, b1⟩ := copy_slots X 35 a ss n c L.out.ls L.out.zs (L.out.later F0.out.1).s (by omega)
  obtain ⟨-, a', c', rfl, s1, z1, bl1⟩ := own_slAt o1
  have ne1 : ∀ x, a' = some x → w.heap.size ≠ x.block := fun x hx => by have := bl1 x hx; omega
  have ne1' : ∀ x, a' = some x → w.heap.size + 1 ≠ x.block := fun x hx => by have := bl1 x hx; omega
  have m1 : MlAt w1 w.heap.size k u q t g a n c a2 n2 c2 := F0.out.2.1.later b1
  have m1' : MlAt w1 (w.heap.size + 1) 0 0 0 ⟨#[]⟩ ⟨#[]⟩ none 0 0 none 0 0 := F0.out.2.2.later b1
  have n1 : ¬ w.heap.size = w.heap.size + 1 := by omega
  have n2' : ¬ w.heap.size + 1 = w.heap.size := by omega
  obtain ⟨Y, hY⟩ : ∃ Y, w1.setCell ⟨w.heap.size, 5, none⟩ (.slice a' n c') = Y := ⟨_, rfl⟩
  have F1 : Hid (Below w.heap.size w Y ∧ MlAt Y w.heap.size k u q t g a' n c' a2 n2 c2 ∧ MlAt Y (w.heap.size + 1) 0 0 0 ⟨#[]⟩ ⟨#[]⟩ none 0 0 none 0 0 ∧ SlAt Y a' ss) := by
    rw [← hY]
    exact ⟨(chain F0.out.1 b1).setCell (p := ⟨w.heap.size, 5, none⟩) (Nat.le_refl _) _, m1.put5 _ _ _, m1'.other (p := ⟨w.heap.size, 5, none⟩) n1 _, s1.other (p := ⟨w.heap.size, 5, none⟩) ne1 _⟩
  have gY : w.heap.size + 1 < Y.heap.size := F1.out.2.2.1.lt
  obtain ⟨v2, w2, r2, o2, b2⟩ := copy_strs Y 36 a2 is n2 c2 L.out.li L.out.zi (L.out.later F1.out.1).i (by omega)
  obtain ⟨-, a2', c2', rfl, s2, z2, bl2⟩ := own_strAt2 o2
  have ne2 : ∀ x, a2' = some x → w.heap.size ≠ x.block := fun x hx => by have := bl2 x hx; omega
  have ne2' : ∀ x, a2' = some x → w.heap.size + 1 ≠ x.block := fun x hx => by have := bl2 x hx; omega
  have F2 : Hid (Below w.heap.size w w2 ∧ MlAt w2 w.heap.size k u q t g a' n c' a2 n2 c2 ∧ MlAt w2 (w.heap.size + 1) 0 0 0 ⟨#[]⟩ ⟨#[]⟩ none 0 0 none 0 0 ∧ SlAt w2 a' ss ∧ StrAt w2 a2' is) := ⟨chain F1.out.1 b2, F1.out.2.1.later b2, F1.out.2.2.1.later b2, F1.out.2.2.2.later b2, s2⟩
  have RR : Hid ((Builtin.append_ #[35, 35] 35 #[.slice (some ⟨X.heap.size, 0, none⟩) 0 0, .slice a n c]).run Tryd.prog (X.alloc (.cells #[] 83)) = .ok (.slice a' n c') w1 ∧ (Builtin.append_ #[36, 36] 36 #[.slice (some ⟨Y.heap.size, 0, none⟩) 0 0, .slice a2 n2 c2]).run Tryd.prog (Y.alloc (.cells #[] 9)) = .ok (.slice a2' n2 c2') w2) := ⟨r1, r2⟩
  have ZZ : Hid ((a' = none → n = 0 ∧ c' = 0) ∧ (a2' = none → n2 = 0 ∧ c2' = 0) ∧ (∀ x, a' = some x → w.heap.size ≠ x.block ∧ w.heap.size + 1 ≠ x.block) ∧ ∀ x, a2' = some x → w.heap.size ≠ x.block ∧ w.heap.size + 1 ≠ x.block) := ⟨z1, z2, fun x hx => ⟨ne1 x hx, ne1' x hx⟩, fun x hx => ⟨ne2 x hx, ne2' x hx⟩⟩
  have HY : Hid (w1.setCell ⟨w.heap.size, 5, none⟩ (.slice a' n c') = Y) := hY
  obtain ⟨-, p0, p1, p2, p3, p4, p5, p6⟩ := F0.out.2.1
  obtain ⟨f1, y0, y1, y2, y3, y4, y5, y6⟩ := m1
  obtain ⟨f2, r0', r1', r2', r3', r4', r5', r6'⟩ := F2.out.2.1
  obtain ⟨f3, q0, q1, q2, q3, q4, q5, q6⟩ := F2.out.2.2.1
  obtain ⟨-, t0, t1, t2, t3, t4, t5, t6⟩ := F1.out.2.1
  clear r1 r2 o1 o2 b1 b2 s1 s2 z1 z2 bl1 bl2 ne1 ne1' ne2 ne2' m1'
  have gx1 : w.heap.size < X.heap.size := by omega
  have gx2 : ¬ w.heap.size = X.heap.size := by omega
  have gy1 : w.heap.size < Y.heap.size := by omega
  have gy2 : ¬ w.heap.size = Y.heap.size := by omega
  go_enter Tryd.func13, Tryd.ntmps13
  go_wp2_with (first
    | (at_builtin; refine Go.Lib.wpList_append_run _ rfl _ _ _ _ rfl _ _ rfl rfl _ _ RR.out.1 ?_)
    | (at_builtin; refine Go.Lib.wpList_append_run _ rfl _ _ _ _ rfl _ _ rfl rfl _ _ RR.out.2 ?_))
  have L2 : Lists w2 a' n c' a2' n2 c2' ss is := ⟨F2.out.2.2.2.1, F2.out.2.2.2.2, L.out.ls, L.out.li, ZZ.out.1, ZZ.out.2.1, L.out.ms, L.out.mi⟩
  have L3 := L2.other (p := ⟨w.heap.size, 6, none⟩) (fun x hx => (ZZ.out.2.2.1 x hx).1) (fun x hx => (ZZ.out.2.2.2 x hx).1) (.slice a2' n2 c2')
  refine bodyPost_ret ?_ rfl ⟨a', c', a2', c2', rfl, lists_whole L3 (fun x hx => (ZZ.out.2.2.1 x hx).2) (fun x hx => (ZZ.out.2.2.2 x hx).2) _ _ _ _ _ _ _, below_whole (F2.out.1.setCell (p := ⟨w.heap.size, 6, none⟩) (Nat.le_refl _) _) (Nat.le_succ _) _ _ _ _ _ _ _⟩
  exact res_copy _ _ (w.heap.size + 1) _ _ _ _ _ _ _ _ _ _ _ (by kernel_rfl) ((F2.out.2.2.1.other (p := ⟨w.heap.size, 6, none⟩) n1 _).whole _ _ _ _ _ _ _ _ _ _ _)
end Go.Proofs.YtbogoheigbiegaaDoor.Mai
namespace Go.Proofs.YtbogoheigbiegaaDoor.Gat
open Go.RowKit Go.Proofs.Fd Go.Proofs.Ml Go.Proofs.Hs Go.Proofs.Gt
open Go.Proofs.YtbogoheigbiegaaDoor.Mai (mv MlAt Lists MlV SlAt enS chkE z32)
set_option maxRecDepth 20000
theorem SignV (key : ByteArray) (v : Value) (m : Ml) (w : World) (V : MlV w v m) (K : Kh w) :
    Calls Tryd.prog 21 #[.string key, v] w fun e w' => ∃ v', e = .returned (.tuple #[v', .int .i64 (sgE key m)]) ∧ MlV w' v' (sgV key m) ∧ Below w.heap.size w w' := by
  obtain ⟨a, n, c, a2, n2, c2, rfl, LL⟩ := V
  exact Sign_any key m.k m.u m.q m.t m.g a n c a2 n2 c2 m.sl m.ids w LL K
theorem rSignV (key : ByteArray) (v : Value) (m : Ml) (w : World) (V : MlV w v m) :
    Calls Tryd.prog 12 #[.string key, v] w fun e w' => ∃ v', e = .returned (.tuple #[v', .int .i64 (sgE key m)]) ∧ MlV w' v' (sgV key m) ∧ Below w.heap.size w w' := by
  obtain ⟨a, n, c, a2, n2, c2, rfl, LL⟩ := V
  refine Calls.mono (rSign_any key m.k m.u m.q m.t m.g a n c a2 n2 c2 m.sl m.ids w LL) ?_
  rintro e w' ⟨v', rfl, hv, hb, -⟩
  exact ⟨v', rfl, hv, hb⟩
theorem copyV (v : Value) (m : Ml) (w : World) (V : MlV w v m) (zs : m.sl.length * 32 ≤ 140737488351232) (zi : m.ids.length * 16 ≤ 140737488351232) :
    Calls Tryd.prog 13 #[v] w fun e w' => ∃ v', e = .returned v' ∧ MlV w' v' m ∧ Below w.heap.size w w' := by
  obtain ⟨a, n, c, a2, n2, c2, rfl, LL⟩ := V
  have q := Mai.copyMail_any m.k m.u m.q m.t m.g a n c a2 n2 c2 m.sl m.ids (by rw [← LL.ls]; exact zs) (by rw [← LL.li]; exact zi) w LL
  refine Calls.mono q ?_
  rintro e w' ⟨a', c', a2', c2', rfl, L, hb⟩
  exact ⟨_, rfl, ⟨a', n, c', a2', n2, c2', rfl, L⟩, hb⟩
theorem gone (w : World) (o : Obj) : Below w.heap.size w (w.alloc o) := (Below.refl _ _).alloc (Nat.le_refl _) _
set_option maxHeartbeats 4000000 in
theorem GateSigns_walk (key : ByteArray) (k u q : Int) (t g : ByteArray) (a : Option Addr) (n c : Nat) (a2 : Option Addr) (n2 c2 : Nat) (ss : List Sl) (is : List ByteArray) (zs : n * 32 ≤ 140737488351232) (zi : n2 * 16 ≤ 140737488351232) (w : World) (L : Hid (Lists w a n c a2 n2 c2 ss is)) (K : Hid (Kh w)) :
    Calls Tryd.prog 4 #[.string key, mv k u q t g a n c a2 n2 c2] w fun e w' => e = .returned (.bool true) ∧ Below w.heap.size w w' := by
  have CP : Hid (∀ w2, Below w.heap.size w w2 → Calls Tryd.prog 13 #[mv k u q t g a n c a2 n2 c2] w2 fun e w' => ∃ a' n' c' a2' n2' c2', e = .returned (mv k u q t g a' n' c' a2' n2' c2') ∧ MlV w' (mv k u q t g a' n' c' a2' n2' c2') ⟨k, u, q, t, g, ss, is⟩ ∧ Below w2.heap.size w2 w') := fun w2 hb => by
    refine Calls.mono (copyV _ ⟨k, u, q, t, g, ss, is⟩ w2 ⟨a, n, c, a2, n2, c2, rfl, L.out.later hb⟩ (by show ss.length * 32 ≤ _; rw [L.out.ls]; exact zs) (by show is.length * 16 ≤ _; rw [L.out.li]; exact zi)) ?_
    rintro e w' ⟨v', rfl, ⟨a', n', c', a2', n2', c2', rfl, LL⟩, hb⟩
    exact ⟨a', n', c', a2', n2', c2', rfl, ⟨a', n', c', a2', n2', c2', rfl, LL⟩, hb⟩
  obtain ⟨m, hm⟩ : ∃ m : Ml, ⟨k, u, q, t, g, ss, is⟩ = m := ⟨_, rfl⟩
  have LV : Hid (MlV w (mv k u q t g a n c a2 n2 c2) m) := by rw [← hm]; exact ⟨a, n, c, a2, n2, c2, rfl, L.out⟩
  rw [hm] at CP
  have SG0 : ∀ v w2, MlV w2 v m → Kh w2 → Calls Tryd.prog 21 #[.string key, v] w2 fun e w' => ∃ v', e = .returned (.tuple #[v', .int .i64 (sgE key m)]) ∧ MlV w' v' (sgV key m) ∧ Below w2.heap.size w2 w' := fun v w2 hv hk => SignV key v m w2 hv hk
  have RG0 : ∀ v w2, MlV w2 v m → Calls Tryd.prog 12 #[.string key, v] w2 fun e w' => ∃ v', e = .returned (.tuple #[v', .int .i64 (sgE key m)]) ∧ MlV w' v' (sgV key m) ∧ Below w2.heap.size w2 w' := fun v w2 hv => rSignV key v m w2 hv
  have SM : Hid (∀ v v' x w2, MlV w2 v x → MlV w2 v' x → Calls Tryd.prog 16 #[v, v'] w2 fun e w' => e = .returned (.bool true) ∧ Below w2.heap.size w2 w') := fun v v' x w2 h1 h2 => Mai.sameMail_yes v v' x w2 h1 h2
  have WK : Hid (∀ w2, Kh w2 → Calls Tryd.prog 20 #[] w2 fun e w' => e = .returned (.bool true) ∧ Below w2.heap.size w2 w') := fun w2 h => gworks_any w2 h
  obtain ⟨M, hM⟩ : ∃ M, sgV key m = M := ⟨_, rfl⟩
  obtain ⟨E, hE⟩ : ∃ E, sgE key m = E := ⟨_, rfl⟩
  rw [hM, hE] at SG0 RG0
  have SG : Hid _ := SG0
  have RG : Hid _ := RG0
  clear SG0 RG0 hM hE hm L zs zi
  obtain ⟨k2, u2, q2, t2, g2, s2, i2⟩ := M
  have M0 : Hid (MlAt (w.alloc (.cells #[.int .i64 k, .int .i64 u, .int .i64 q, .string t, .string g, .slice a n c, .slice a2 n2 c2] 38)) w.heap.size k u q t g a n c a2 n2 c2) := MlAt.new w _ k u q t g a n c a2 n2 c2
  unfold mv at CP LV ⊢
  go_enter Tryd.func4, Tryd.ntmps4
  go_wp2_with fail
  refine Calls.mono (CP.out _ (gone _ _)) ?_
  rintro e w1 ⟨a', n', c', a2', n2', c2', rfl, hv, hb⟩
  have B1 : Hid (Below w.heap.size w w1) := chain (gone _ _) hb
  have V1 : Hid (MlV w1 (.agg #[.int .i64 k, .int .i64 u, .int .i64 q, .string t, .string g, .slice a' n' c', .slice a2' n2' c2']) m) := hv
  have M1 : Hid (MlAt w1 w.heap.size k u q t g a n c a2 n2 c2) := MlAt.later M0.out hb
  have H1 : Hid (MlAt (w1.alloc (.cells #[.int .i64 k, .int .i64 u, .int .i64 q, .string t, .string g, .slice a' n' c', .slice a2' n2' c2'] 38)) w1.heap.size k u q t g a' n' c' a2' n2' c2') := MlAt.new w1 _ k u q t g a' n' c' a2' n2' c2'
  clear hv hb CP M0
  go_wp2_with fail
  refine Calls.mono (SG.out _ _ (Mai.MlV.later V1.out (gone _ _)) (K.out.later (chain B1.out (gone _ _)))) ?_
  rintro e w2 ⟨v2, rfl, ⟨x1, y1, z1, x2, y2, z2, rfl, LL⟩, hb⟩
  have B2 : Hid (Below w.heap.size w w2) := chain (chain B1.out (gone _ _)) hb
  have V2 : Hid (MlV w2 (.agg #[.int .i64 k, .int .i64 u, .int .i64 q, .string t, .string g, .slice a' n' c', .slice a2' n2' c2']) m) := Mai.MlV.later V1.out (chain (gone _ _) hb)
  have M2 : Hid (MlAt w2 w.heap.size k u q t g a n c a2 n2 c2) := MlAt.later M1.out (chain (gone _ _) hb)
  have H2 : Hid (MlAt w2 w1.heap.size k u q t g a' n' c' a2' n2' c2') := MlAt.later H1.out hb
  simp only at LL ⊢
  have S2 : Hid (MlV w2 (.agg #[.int .i64 k2, .int .i64 u2, .int .i64 q2, .string t2, .string g2, .slice x1 y1 z1, .slice x2 y2 z2]) ⟨k2, u2, q2, t2, g2, s2, i2⟩) := ⟨x1, y1, z1, x2, y2, z2, rfl, LL⟩
  have N2 : Hid (MlAt (w2.alloc (.cells #[.int .i64 k2, .int .i64 u2, .int .i64 q2, .string t2, .string g2, .slice x1 y1 z1, .slice x2 y2 z2] 38)) w2.heap.size k2 u2 q2 t2 g2 x1 y1 z1 x2 y2 z2) := MlAt.new w2 _ k2 u2 q2 t2 g2 x1 y1 z1 x2 y2 z2
  obtain ⟨-, d0, d1, d2, d3, d4, d5, d6⟩ := MlAt.later M2.out (gone w2 (.cells #[.int .i64 k2, .int .i64 u2, .int .i64 q2, .string t2, .string g2, .slice x1 y1 z1, .slice x2 y2 z2] 38))
  clear LL hb SG V1 M1 H1 B1
  unfold mv
  go_wp2_with fail
  refine Calls.mono (RG.out _ _ (Mai.MlV.later LV.out (chain B2.out (gone _ _)))) ?_
  rintro e w3 ⟨v3, rfl, ⟨x3, y3, z3, x4, y4, z4, rfl, LL⟩, hb⟩
  have B3 : Hid (Below w.heap.size w w3) := chain (chain B2.out (gone _ _)) hb
  have V3 : Hid (MlV w3 (.agg #[.int .i64 k, .int .i64 u, .int .i64 q, .string t, .string g, .slice a' n' c', .slice a2' n2' c2']) m) := Mai.MlV.later V2.out (chain (gone _ _) hb)
  have S3 : Hid (MlV w3 (.agg #[.int .i64 k2, .int .i64 u2, .int .i64 q2, .string t2, .string g2, .slice x1 y1 z1, .slice x2 y2 z2]) ⟨k2, u2, q2, t2, g2, s2, i2⟩) := Mai.MlV.later S2.out (chain (gone _ _) hb)
  have M3 : Hid (MlAt w3 w.heap.size k u q t g a n c a2 n2 c2) := MlAt.later M2.out (chain (gone _ _) hb)
  have H3 : Hid (MlAt w3 w1.heap.size k u q t g a' n' c' a2' n2' c2') := MlAt.later H2.out (chain (gone _ _) hb)
  have N3 : Hid (MlAt w3 w2.heap.size k2 u2 q2 t2 g2 x1 y1 z1 x2 y2 z2) := MlAt.later N2.out hb
  simp only at LL ⊢
  have T3 : Hid (MlV w3 (.agg #[.int .i64 k2, .int .i64 u2, .int .i64 q2, .string t2, .string g2, .slice x3 y3 z3, .slice x4 y4 z4]) ⟨k2, u2, q2, t2, g2, s2, i2⟩) := ⟨x3, y3, z3, x4, y4, z4, rfl, LL⟩
  clear d0 d1 d2 d3 d4 d5 d6
  obtain ⟨-, d0, d1, d2, d3, d4, d5, d6⟩ := MlAt.later N3.out (gone w3 (.cells #[.int .i64 k2, .int .i64 u2, .int .i64 q2, .string t2, .string g2, .slice x3 y3 z3, .slice x4 y4 z4] 38))
  clear LL hb RG V2 M2 H2 B2 S2 N2 N3
  unfold mv
  go_wp2_with fail
  refine Calls.mono (SM.out _ _ _ _ (Mai.MlV.later S3.out (gone _ _)) (Mai.MlV.later T3.out (gone _ _))) ?_
  rintro e w4 ⟨rfl, hb⟩
  have B4 : Hid (Below w.heap.size w w4) := chain (chain B3.out (gone _ _)) hb
  have V4 : Hid (MlV w4 (.agg #[.int .i64 k, .int .i64 u, .int .i64 q, .string t, .string g, .slice a' n' c', .slice a2' n2' c2']) m) := Mai.MlV.later V3.out (chain (gone _ _) hb)
  clear d0 d1 d2 d3 d4 d5 d6
  obtain ⟨-, d0, d1, d2, d3, d4, d5, d6⟩ := MlAt.later M3.out (chain (gone _ _) hb)
  obtain ⟨-, e0', e1, e2, e3, e4, e5, e6⟩ := MlAt.later H3.out (chain (gone _ _) hb)
  clear hb V3 M3 H3 B3 S3 T3
  go_wp2_with fail
  refine Calls.mono (SM.out _ _ m _ V4.out (Mai.MlV.later LV.out B4.out)) ?_
  rintro e w5 ⟨rfl, hb⟩
  have B5 : Hid (Below w.heap.size w w5) := chain B4.out hb
  clear hb d0 d1 d2 d3 d4 d5 d6 e0' e1 e2 e3 e4 e5 e6 V4 LV B4 SM
  go_wp2_with fail
  refine Calls.mono (WK.out _ (K.out.later B5.out)) ?_
  rintro e w6 ⟨rfl, hb⟩
  have B6 : Hid (Below w.heap.size w w6) := chain B5.out hb
  clear hb WK B5
  go_wp2
  go_ret
  exact ⟨rfl, B6.out⟩
end Go.Proofs.YtbogoheigbiegaaDoor.Gat
