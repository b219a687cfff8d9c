/- Copies of messages; the document's Encode. -/
import Derived.Test.YtbaajpefefedbaaMlU
namespace Go.Proofs.Ytbaajpefefedbaa
open Go.RowKit Go.Proofs.Fd Go.Proofs.Ml
set_option maxRecDepth 20000

def slcells (l : List Sl) : List Value := l.flatMap fun s => [.string s.id, .string s.tx]
theorem slcells_cons (s : Sl) (l : List Sl) : slcells (s :: l) = .string s.id :: .string s.tx :: slcells l := rfl
theorem slcells_len (l : List Sl) : (slcells l).length = l.length * 2 := by
  induction l with
  | nil => rfl
  | cons s l ih => rw [slcells_cons]; simp only [List.length_cons, ih]; omega
theorem slcells_app (a b : List Sl) : slcells (a ++ b) = slcells a ++ slcells b := by unfold slcells; rw [List.flatMap_append]
theorem slcells_at (l : List Sl) (i : Nat) (hi : i < l.length) : (slcells l)[i * 2]? = some (.string l[i].id) ∧ (slcells l)[i * 2 + 1]? = some (.string l[i].tx) := by
  induction l generalizing i with
  | nil => simp at hi
  | cons s l ih =>
    rw [slcells_cons]
    cases i with
    | zero => exact ⟨rfl, rfl⟩
    | succ i =>
      have := ih i (by simpa using hi)
      have e : (i + 1) * 2 = i * 2 + 2 := by omega
      rw [e]
      exact this
theorem slcells_one (l : List Sl) : ∀ u ∈ slcells l, u.oneCell' = true := by
  intro u hu
  unfold slcells at hu
  rw [List.mem_flatMap] at hu
  obtain ⟨h, -, hu⟩ := hu
  simp at hu
  rcases hu with rfl | rfl <;> rfl
theorem SlAt.each {w : World} {b o : Nat} {l : List Sl} (h : SlAt w (some ⟨b, o, none⟩) l) : ∀ j u, (slcells l)[j]? = some u → w.cell? (Addr.add ⟨b, o, none⟩ j) = some u := by
  intro j u hu
  have hj : j < l.length * 2 := by have := (List.getElem?_eq_some_iff.1 hu).1; rw [slcells_len] at this; exact this
  rw [add_at]
  obtain ⟨i, r, hr, rfl⟩ : ∃ i r, r < 2 ∧ j = i * 2 + r := ⟨j / 2, j % 2, by omega, by omega⟩
  obtain ⟨b', o', he, c0, c1⟩ := h i (by omega)
  cases he
  obtain ⟨g0, g1⟩ := slcells_at l i (by omega)
  rcases (by omega : r = 0 ∨ r = 1) with rfl | rfl
  · rw [Nat.add_zero] at hu; rw [g0] at hu; cases hu; exact c0
  · rw [g1] at hu; cases hu; rw [← Nat.add_assoc]; exact c1
theorem SlAt.where {w : World} {a : Addr} {l : List Sl} (h : SlAt w (some a) l) (h0 : 0 < l.length) : ∃ b o, a = ⟨b, o, none⟩ := by
  obtain ⟨b, o, e, -⟩ := h 0 h0
  injection e with e
  exact ⟨b, o, e⟩
theorem own_slAt {w : World} {base n : Nat} {v : Value} {l : List Sl} (h : w.ownsRow base 52 2 v n (slcells l)) : l.length = n ∧ ∃ a cap, v = .slice a n cap ∧ SlAt w a l ∧ (a = none → n = 0 ∧ cap = 0) ∧ ∀ x, a = some x → base ≤ x.block := by
  obtain ⟨h1, h2⟩ := h
  have hl : l.length = n := by rw [slcells_len] at h1; omega
  refine ⟨hl, ?_⟩
  rcases h2 with ⟨rfl, rfl⟩ | ⟨g, cap, cur, rfl, hb, hh, hcap, hml, -, ht⟩
  · exact ⟨none, 0, rfl, fun i hi => by omega, fun _ => ⟨rfl, rfl⟩, fun x h => (by cases h)⟩
  · refine ⟨_, cap, rfl, fun i hi => ⟨g, 0, rfl, ?_⟩, fun h => (by cases h), fun x h => (by cases h; exact hb)⟩
    have key : ∀ j, j < n * 2 → w.cell? ⟨g, 0 + j, none⟩ = (slcells l)[j]? := fun j hj => by
      have e : cur[j]? = (slcells l)[j]? := by
        rw [← ht, List.getElem?_take_of_lt hj]; simp
      rw [Nat.zero_add]
      unfold World.cell?
      rw [hh]
      simp only [Option.isSome_none]
      show cur[j]? = _
      rw [e]
    obtain ⟨g0, g1⟩ := slcells_at l i hi
    refine ⟨?_, ?_⟩
    · rw [key (i * 2) (by omega)]; exact g0
    · rw [Nat.add_assoc, key (i * 2 + 1) (by omega)]; exact g1
theorem infoSlot : (Try.prog.info? 52).map (fun i => (i.zero, i.size, i.bytes)) = some (some (.agg #[.string ⟨#[]⟩, .string ⟨#[]⟩]), 2, 32) := by kernel_rfl
theorem app_slots (w : World) (ty base : Nat) (v : Value) (m : Nat) (xs : List Value) (hown : w.ownsRow base 52 2 v m xs) (a : Option Addr) (ks : List Sl) (n cap : Nat) (hn : ks.length = n) (ha : a = none → n = 0 ∧ cap = 0) (hc : SlAt w a ks) (hz : (m + n) * 32 ≤ 140737488355328) (hb : base ≤ w.heap.size) :
    ∃ v' w', (Builtin.append_ #[22, 22] ty #[v, .slice a n cap]).run Try.prog w = .ok v' w' ∧ w'.ownsRow base 52 2 v' (m + n) (xs ++ slcells ks) ∧ w.grownBy w' v.ownBlock := by
  obtain ⟨i0, hi, hz0, hz1, hz2⟩ := info_parts infoSlot
  cases a with
  | none =>
    obtain ⟨rfl, rfl⟩ := ha rfl
    obtain rfl := List.length_eq_zero_iff.1 hn
    exact ⟨v, w, run_append_owned_none (P := Try.prog) w base 22 ty 52 i0 2 Try.underlying22 hi v m xs hown, by simpa [slcells] using hown, ⟨rfl, rfl, rfl, Nat.le_refl _, fun _ _ _ => rfl⟩⟩
  | some a =>
    have each : ∀ j u, (slcells ks)[j]? = some u → w.cell? (a.add j) = some u := by
      intro j u hu
      have h0 : 0 < ks.length := by
        have := (List.getElem?_eq_some_iff.1 hu).1
        rw [slcells_len] at this
        omega
      obtain ⟨b, o, rfl⟩ := hc.where h0
      exact hc.each j u hu
    obtain ⟨v', w', h1, h2, h3, -⟩ := run_append_own (P := Try.prog) w base 22 ty 52 i0 (.agg #[.string ⟨#[]⟩, .string ⟨#[]⟩]) 2 32 Try.underlying22 hi hz0 hz1 hz2 rfl (by decide) v m xs hown a n cap (slcells ks) (by rw [slcells_len, hn]) each (slcells_one ks) (by unfold maxLen; omega) hz hb
    exact ⟨v', w', h1, h2, h3⟩
theorem copy_slots (w : World) (ty : Nat) (a : Option Addr) (ks : List Sl) (n cap : Nat) (hn : ks.length = n) (ha : a = none → n = 0 ∧ cap = 0) (hc : SlAt w a ks) (hz : n * 32 ≤ 140737488355328) :
    ∃ v' w', (Builtin.append_ #[22, 22] ty #[.slice (some ⟨w.heap.size, 0, none⟩) 0 0, .slice a n cap]).run Try.prog (w.alloc (.cells #[] 52)) = .ok v' w' ∧ w'.ownsRow w.heap.size 52 2 v' n (slcells ks) ∧ Below w.heap.size w w' := by
  have hb : Below w.heap.size w (w.alloc (.cells #[] 52)) := (Below.refl _ _).alloc (Nat.le_refl _) _
  have o0 := World.ownsRow_made (base := w.heap.size) (e := 52) (size := 2) w #[] 0 (Nat.le_refl _) (Nat.zero_le _) rfl
  obtain ⟨v', w', h1, h2, h3⟩ := app_slots _ ty w.heap.size _ 0 [] o0 a ks n cap hn ha (hc.later hb) (by omega) (by simp)
  refine ⟨v', w', h1, by simpa using h2, hb.grown h3 (by simp) (fun k hk => (o0.lt k hk).1)⟩
theorem MlAt.put5 {w : World} {b : Nat} {k u q : Int} {t g : ByteArray} {a : Option Addr} {n c : Nat} {a2 : Option Addr} {n2 c2 : Nat} (h : MlAt w b k u q t g a n c a2 n2 c2) (a' : Option Addr) (n' c' : Nat) : MlAt (w.setCell ⟨b, 5, none⟩ (.slice a' n' c')) b k u q t g a' n' c' a2 n2 c2 := by
  obtain ⟨f, h0, h1, h2, h3, h4, h5, h6⟩ := h
  exact ⟨fun o => by simp [go_sem, f], by simp [go_sem, h0], by simp [go_sem, h1], by simp [go_sem, h2], by simp [go_sem, h3], by simp [go_sem, h4], by simp [go_sem, h5], by simp [go_sem, h6]⟩
theorem MlAt.put6 {w : World} {b : Nat} {k u q : Int} {t g : ByteArray} {a : Option Addr} {n c : Nat} {a2 : Option Addr} {n2 c2 : Nat} (h : MlAt w b k u q t g a n c a2 n2 c2) (a' : Option Addr) (n' c' : Nat) : MlAt (w.setCell ⟨b, 6, none⟩ (.slice a' n' c')) b k u q t g a n c a' n' c' := by
  obtain ⟨f, h0, h1, h2, h3, h4, h5, h6⟩ := h
  exact ⟨fun o => by simp [go_sem, f], by simp [go_sem, h0], by simp [go_sem, h1], by simp [go_sem, h2], by simp [go_sem, h3], by simp [go_sem, h4], by simp [go_sem, h5], by simp [go_sem, h6]⟩
theorem SlAt.other {w : World} {a : Option Addr} {l : List Sl} (h : SlAt w a l) {p : Addr} (hne : ∀ x, a = some x → p.block ≠ x.block) (v : Value) : SlAt (w.setCell p v) a l := fun i hi => by
  obtain ⟨b, o, e, c0, c1⟩ := h i hi
  exact ⟨b, o, e, cell_setCell c0 (hne ⟨b, o, none⟩ e), cell_setCell c1 (hne ⟨b, o, none⟩ e)⟩
theorem res_copy (tmps : Array Value) (w : World) (b : Nat) (k u q : Int) (t g : ByteArray) (a : Option Addr) (n c : Nat) (a2 : Option Addr) (n2 c2 : Nat) (h2 : tmps.getD 2 undef = .pointer (some ⟨b, 0, none⟩)) (l : MlAt w b k u q t g a n c a2 n2 c2) :
    (results Try.f8 tmps).run Try.prog w = .ok (mv k u q t g a n c a2 n2 c2) w := by
  have l1 := run_loadVar_mid (P := Try.prog) w b 0 25 _ _ l.range Try.underlying25 rfl (by kernel_rfl)
  unfold results
  rw [Try.results8]
  have h2' : tmps[2]?.getD undef = .pointer (some ⟨b, 0, none⟩) := by simpa using h2
  simp [h2', l1, asAddr]
set_option maxHeartbeats 2000000 in
theorem copyMail_any (k u q : Int) (t g : ByteArray) (a : Option Addr) (n c : Nat) (a2 : Option Addr) (n2 c2 : Nat) (ss : List Sl) (is : List ByteArray) (zs : n * 32 ≤ 140737488351232) (zi : n2 * 16 ≤ 140737488351232) (w : World) (L : Hid (Lists w a n c a2 n2 c2 ss is)) :
    Calls Try.prog 8 #[mv k u q t g a n c a2 n2 c2] w fun e w' => ∃ a' c' a2' c2', e = .returned (mv k u q t g a' n c' a2' n2 c2') ∧ Lists w' a' n c' a2' n2 c2' ss is ∧ Below w.heap.size w w' := by
  obtain ⟨X, hX, F0⟩ : ∃ X, (w.alloc (.cells #[.int .i64 k, .int .i64 u, .int .i64 q, .string t, .string g, .slice a n c, .slice a2 n2 c2] 25)).alloc (.cells #[.int .i64 0, .int .i64 0, .int .i64 0, .string ⟨#[]⟩, .string ⟨#[]⟩, .slice none 0 0, .slice none 0 0] 25) = X ∧ Hid (Below w.heap.size w X ∧ MlAt X w.heap.size k u q t g a n c a2 n2 c2 ∧ MlAt X (w.heap.size + 1) 0 0 0 ⟨#[]⟩ ⟨#[]⟩ none 0 0 none 0 0) := by
    refine ⟨_, rfl, ((Below.refl _ w).alloc (Nat.le_refl _) _).alloc (by simp) _, (MlAt.new w _ _ _ _ _ _ _ _ _ _ _ _).later ((Below.refl _ _).alloc (Nat.le_refl _) _), ?_⟩
    have := MlAt.new (w.alloc (.cells #[.int .i64 k, .int .i64 u, .int .i64 q, .string t, .string g, .slice a n c, .slice a2 n2 c2] 25)) 25 0 0 0 ⟨#[]⟩ ⟨#[]⟩ none 0 0 none 0 0
    rw [show (w.alloc (.cells #[.int .i64 k, .int .i64 u, .int .i64 q, .string t, .string g, .slice a n c, .slice a2 n2 c2] 25)).heap.size = w.heap.size + 1 by simp] at this
    exact this
  have gX : w.heap.size + 1 < X.heap.size := F0.out.2.2.lt
  obtain ⟨v1, w1, r1, o1, b1⟩ := copy_slots X 22 a ss n c L.out.ls L.out.zs (L.out.later F0.out.1).s (by omega)
  obtain ⟨-, a', c', rfl, s1, z1, bl1⟩ := own_slAt o1
  have ne1 : ∀ x, a' = some x → w.heap.size ≠ x.block := fun x hx => by have := bl1 x hx; omega
  have ne1' : ∀ x, a' = some x → w.heap.size + 1 ≠ x.block := fun x hx => by have := bl1 x hx; omega
  have m1 : MlAt w1 w.heap.size k u q t g a n c a2 n2 c2 := F0.out.2.1.later b1
  have m1' : MlAt w1 (w.heap.size + 1) 0 0 0 ⟨#[]⟩ ⟨#[]⟩ none 0 0 none 0 0 := F0.out.2.2.later b1
  have n1 : ¬ w.heap.size = w.heap.size + 1 := by omega
  have n2' : ¬ w.heap.size + 1 = w.heap.size := by omega
  obtain ⟨Y, hY⟩ : ∃ Y, w1.setCell ⟨w.heap.size, 5, none⟩ (.slice a' n c') = Y := ⟨_, rfl⟩
  have F1 : Hid (Below w.heap.size w Y ∧ MlAt Y w.heap.size k u q t g a' n c' a2 n2 c2 ∧ MlAt Y (w.heap.size + 1) 0 0 0 ⟨#[]⟩ ⟨#[]⟩ none 0 0 none 0 0 ∧ SlAt Y a' ss) := by
    rw [← hY]
    exact ⟨(chain F0.out.1 b1).setCell (p := ⟨w.heap.size, 5, none⟩) (Nat.le_refl _) _, m1.put5 _ _ _, m1'.other (p := ⟨w.heap.size, 5, none⟩) n1 _, s1.other (p := ⟨w.heap.size, 5, none⟩) ne1 _⟩
  have gY : w.heap.size + 1 < Y.heap.size := F1.out.2.2.1.lt
  obtain ⟨v2, w2, r2, o2, b2⟩ := copy_strs Y 23 a2 is n2 c2 L.out.li L.out.zi (L.out.later F1.out.1).i (by omega)
  obtain ⟨-, a2', c2', rfl, s2, z2, bl2⟩ := own_strAt2 o2
  have ne2 : ∀ x, a2' = some x → w.heap.size ≠ x.block := fun x hx => by have := bl2 x hx; omega
  have ne2' : ∀ x, a2' = some x → w.heap.size + 1 ≠ x.block := fun x hx => by have := bl2 x hx; omega
  have F2 : Hid (Below w.heap.size w w2 ∧ MlAt w2 w.heap.size k u q t g a' n c' a2 n2 c2 ∧ MlAt w2 (w.heap.size + 1) 0 0 0 ⟨#[]⟩ ⟨#[]⟩ none 0 0 none 0 0 ∧ SlAt w2 a' ss ∧ StrAt w2 a2' is) := ⟨chain F1.out.1 b2, F1.out.2.1.later b2, F1.out.2.2.1.later b2, F1.out.2.2.2.later b2, s2⟩
  have RR : Hid ((Builtin.append_ #[22, 22] 22 #[.slice (some ⟨X.heap.size, 0, none⟩) 0 0, .slice a n c]).run Try.prog (X.alloc (.cells #[] 52)) = .ok (.slice a' n c') w1 ∧ (Builtin.append_ #[23, 23] 23 #[.slice (some ⟨Y.heap.size, 0, none⟩) 0 0, .slice a2 n2 c2]).run Try.prog (Y.alloc (.cells #[] 9)) = .ok (.slice a2' n2 c2') w2) := ⟨r1, r2⟩
  have ZZ : Hid ((a' = none → n = 0 ∧ c' = 0) ∧ (a2' = none → n2 = 0 ∧ c2' = 0) ∧ (∀ x, a' = some x → w.heap.size ≠ x.block ∧ w.heap.size + 1 ≠ x.block) ∧ ∀ x, a2' = some x → w.heap.size ≠ x.block ∧ w.heap.size + 1 ≠ x.block) := ⟨z1, z2, fun x hx => ⟨ne1 x hx, ne1' x hx⟩, fun x hx => ⟨ne2 x hx, ne2' x hx⟩⟩
  have HY : Hid (w1.setCell ⟨w.heap.size, 5, none⟩ (.slice a' n c') = Y) := hY
  obtain ⟨-, p0, p1, p2, p3, p4, p5, p6⟩ := F0.out.2.1
  obtain ⟨f1, y0, y1, y2, y3, y4, y5, y6⟩ := m1
  obtain ⟨f2, r0', r1', r2', r3', r4', r5', r6'⟩ := F2.out.2.1
  obtain ⟨f3, q0, q1, q2, q3, q4, q5, q6⟩ := F2.out.2.2.1
  obtain ⟨-, t0, t1, t2, t3, t4, t5, t6⟩ := F1.out.2.1
  clear r1 r2 o1 o2 b1 b2 s1 s2 z1 z2 bl1 bl2 ne1 ne1' ne2 ne2' m1'
  have gx1 : w.heap.size < X.heap.size := by omega
  have gx2 : ¬ w.heap.size = X.heap.size := by omega
  have gy1 : w.heap.size < Y.heap.size := by omega
  have gy2 : ¬ w.heap.size = Y.heap.size := by omega
  go_enter Try.func8, Try.ntmps8
  go_wp2_with (first
    | (at_builtin; refine Go.Lib.wpList_append_run _ rfl _ _ _ _ rfl _ _ rfl rfl _ _ RR.out.1 ?_)
    | (at_builtin; refine Go.Lib.wpList_append_run _ rfl _ _ _ _ rfl _ _ rfl rfl _ _ RR.out.2 ?_))
  have L2 : Lists w2 a' n c' a2' n2 c2' ss is := ⟨F2.out.2.2.2.1, F2.out.2.2.2.2, L.out.ls, L.out.li, ZZ.out.1, ZZ.out.2.1, L.out.ms, L.out.mi⟩
  have L3 := L2.other (p := ⟨w.heap.size, 6, none⟩) (fun x hx => (ZZ.out.2.2.1 x hx).1) (fun x hx => (ZZ.out.2.2.2 x hx).1) (.slice a2' n2 c2')
  refine bodyPost_ret ?_ rfl ⟨a', c', a2', c2', rfl, lists_whole L3 (fun x hx => (ZZ.out.2.2.1 x hx).2) (fun x hx => (ZZ.out.2.2.2 x hx).2) _ _ _ _ _ _ _, below_whole (F2.out.1.setCell (p := ⟨w.heap.size, 6, none⟩) (Nat.le_refl _) _) (Nat.le_succ _) _ _ _ _ _ _ _⟩
  exact res_copy _ _ (w.heap.size + 1) _ _ _ _ _ _ _ _ _ _ _ (by kernel_rfl) ((F2.out.2.2.1.other (p := ⟨w.heap.size, 6, none⟩) n1 _).whole _ _ _ _ _ _ _ _ _ _ _)
set_option maxHeartbeats 1000000 in
theorem rencode_any (k u q : Int) (t g : ByteArray) (a : Option Addr) (n c : Nat) (a2 : Option Addr) (n2 c2 : Nat) (ss : List Sl) (is : List ByteArray) (w : World) (L : Hid (Lists w a n c a2 n2 c2 ss is)) :
    Calls Try.prog 10 #[mv k u q t g a n c a2 n2 c2] w fun e w' => e = .returned (.tuple #[.string (enS ⟨k, u, q, t, g, ss, is⟩), .int .i64 (chkE (okB ⟨k, u, q, t, g, ss, is⟩))]) ∧ Below w.heap.size w w' := by
  have CK := fun w h => rcheck_any k u q t g a n c a2 n2 c2 ss is w h
  unfold enS
  cases h : okB ⟨k, u, q, t, g, ss, is⟩ with
  | false =>
    rw [h, show chkE false = 110 from rfl] at CK
    show Calls _ _ _ _ fun e w' => e = .returned (.tuple #[.string ⟨#[]⟩, .int .i64 110]) ∧ _
    clear h
    go_enter Try.func10, Try.ntmps10
    go_wp2_with fail
    refine Calls.mono (CK _ (L.out.later ((Below.refl _ _).alloc (Nat.le_refl _) _))) ?_
    rintro e w1 ⟨rfl, hb1⟩
    have B1 : Hid (Below w.heap.size w w1) := chain ((Below.refl _ _).alloc (Nat.le_refl _) _) hb1
    clear hb1 CK
    go_wp2
    go_ret2
    exact ⟨rfl, B1.out⟩
  | true =>
    rw [h, show chkE true = 0 from rfl] at CK
    obtain ⟨R, hR⟩ : ∃ R, mk (txt ⟨k, u, q, t, g, ss, is⟩) = R := ⟨_, rfl⟩
    have TX : Hid (∀ w, Lists w a n c a2 n2 c2 ss is → Calls Try.prog 28 #[mv k u q t g a n c a2 n2 c2] w fun e w' => e = .returned (.string R) ∧ Below w.heap.size w w') := fun w hw => by
      rw [← hR]; exact rtext_any k u q t g a n c a2 n2 c2 ss is h w hw
    show Calls _ _ _ _ fun e w' => e = .returned (.tuple #[.string (mk (txt ⟨k, u, q, t, g, ss, is⟩)), .int .i64 0]) ∧ _
    rw [hR]
    clear h hR
    go_enter Try.func10, Try.ntmps10
    go_wp2_with fail
    refine Calls.mono (CK _ (L.out.later ((Below.refl _ _).alloc (Nat.le_refl _) _))) ?_
    rintro e w1 ⟨rfl, hb1⟩
    have B1 : Hid (Below w.heap.size w w1 ∧ MlAt w1 w.heap.size k u q t g a n c a2 n2 c2) := ⟨chain ((Below.refl _ _).alloc (Nat.le_refl _) _) hb1, (MlAt.new w _ _ _ _ _ _ _ _ _ _ _ _).later hb1⟩
    clear hb1 CK
    obtain ⟨-, p0, p1, p2, p3, p4, p5, p6⟩ := B1.out.2
    go_wp2_with fail
    refine Calls.mono (TX.out _ (L.out.later B1.out.1)) ?_
    rintro e w2 ⟨rfl, hb2⟩
    have B2 : Hid (Below w.heap.size w w2) := chain B1.out.1 hb2
    clear hb2 B1 TX p0 p1 p2 p3 p4 p5 p6
    go_wp2
    go_ret2
    exact ⟨rfl, B2.out⟩
end Go.Proofs.Ytbaajpefefedbaa
