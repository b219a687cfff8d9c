/- CurveChains answers true. -/
import Derived.Test.YtdebfelgaiofeaaD6
import Derived.Test.YtdebfelgaiofeaaC8
namespace Go.Proofs.Ytdebfelgaiofeaa
open Go.RowKit Go.Proofs.Fd Go.Proofs.Ed

/-- Strings as cells. -/
def scells (l : List ByteArray) : List Value := l.map fun s => .string s
theorem infoStr : (Try.prog.info? 9).map (fun i => (i.zero, i.size, i.bytes)) = some (some (.string ⟨#[]⟩), 1, 16) := by kernel_rfl
theorem owns_strs {w : World} {base n : Nat} {v : Value} {l : List ByteArray} (h : w.ownsRow base 9 1 v n (scells l)) : l.length = n ∧ ((v = .slice none 0 0 ∧ n = 0) ∨ ∃ g cap, v = .slice (some ⟨g, 0, none⟩) n cap ∧ StrAt w (some ⟨g, 0, none⟩) l) := by
  obtain ⟨h1, h2⟩ := h
  have hl : l.length = n := by simpa [scells] using h1
  refine ⟨hl, ?_⟩
  rcases h2 with h2 | ⟨g, cap, cur, rfl, -, hh, -, -, -, ht⟩
  · exact .inl h2
  · refine .inr ⟨g, cap, rfl, fun j hj => ⟨g, 0, rfl, ?_⟩⟩
    have e : cur[j]? = (scells l)[j]? := by
      rw [← ht, List.getElem?_take_of_lt (by omega)]; simp
    rw [Nat.zero_add]
    unfold World.cell?
    rw [hh]
    simp only [Option.isSome_none]
    show cur[j]? = _
    rw [e]; simp [scells, hj]
theorem heap_new (w : World) (o : Obj) : (w.alloc o).heap[w.heap.size]? = some o := by
  show (w.heap.push o)[w.heap.size]? = some o
  simp

set_option maxHeartbeats 1000000 in
theorem CurveChains_walk (u : ByteArray) (a : Option Addr) (ks : List ByteArray) (n cap : Nat) (hn : Hid (ks.length = n)) (hr : n * 16 ≤ 140737488351232) (w : World) (hc : Hid (StrAt w a ks)) (ha : a = none → n = 0 ∧ cap = 0) :
    Calls Try.prog 5 #[.string u, .slice a n cap] w fun e w' => e = .returned (.bool true) ∧ Below w.heap.size w w' := by
  obtain ⟨i0, hi, hz0, hz1, hz2⟩ := info_parts infoStr
  by_cases hg : 4 < n ∧ n ≤ 16
  · have g1 : (4 : Int) < (n : Int) := by omega
    have g2 : (n : Int) ≤ 16 := by omega
    clear hg ha
    go_enter Try.func5, Try.ntmps5
    go_wp2_with fail
    refine Calls.mono (works_any _) ?_
    rintro e w1 ⟨rfl, hb⟩
    have B1 : Hid (Below w.heap.size w w1) := hb
    clear hb
    go_wp2
    go_ret
    exact ⟨rfl, B1.out⟩
  · have C1 : Hid (∀ (a : Option Addr) (c : Nat) (w : World), StrAt w a ks → Calls Try.prog 18 #[.string u, .slice a n c] w fun e w' => e = .returned (.tuple (chA u ks)) ∧ Below w.heap.size w w') := fun a c w h => Chain_all u a ks n c hn (by omega) w h
    have C2 : Hid (∀ w', Below w.heap.size w w' → Calls Try.prog 19 #[.string u, .slice a n cap] w' fun e w'' => e = .returned (.tuple (chA u ks)) ∧ Below w'.heap.size w' w'') := fun w' hb => rChain_all u a ks n cap hn (by omega) w' (hc.out.later hb)
    obtain ⟨X, e1, hX⟩ : ∃ (X : ByteArray) (e : Int), chA u ks = #[.string X, .int .i64 e] := by
      unfold chA
      split
      · split
        · exact ⟨_, _, rfl⟩
        · cases chn ks u
          · exact ⟨_, _, rfl⟩
          · exact ⟨_, _, rfl⟩
      · exact ⟨_, _, rfl⟩
    rw [hX] at C1 C2
    clear hX
    by_cases hne : n = 0
    · subst hne
      obtain rfl : ks = [] := List.length_eq_zero_iff.1 hn.out
      have S0 : Hid (∀ (w : World) (a : Option Addr), StrAt w a []) := fun w a i hi => by simp at hi
      cases a with
      | none =>
        obtain ⟨-, rfl⟩ := ha rfl
        clear hg ha
        go_enter Try.func5, Try.ntmps5
        go_wp2_with fail
        refine Calls.mono (C1.out _ _ _ (S0.out _ _)) ?_
        rintro e w3 ⟨rfl, hb⟩
        have B3 : Hid (Below w.heap.size w w3) := chain ((Below.refl _ _).alloc (Nat.le_refl _) _) hb
        clear hb
        go_wp2_with fail
        refine Calls.mono (C2.out _ B3.out) ?_
        rintro e w4 ⟨rfl, hb⟩
        have B4 : Hid (Below w.heap.size w w4) := chain B3.out hb
        clear hb
        go_wp2_with fail
        refine Calls.mono (works_any _) ?_
        rintro e w5 ⟨rfl, hb⟩
        have B5 : Hid (Below w.heap.size w w5) := chain B4.out hb
        clear hb
        go_wp2
        go_ret
        exact ⟨rfl, B5.out⟩
      | some x =>
        clear hg ha
        go_enter Try.func5, Try.ntmps5
        go_wp2_with fail
        refine Calls.mono (C1.out _ _ _ (S0.out _ _)) ?_
        rintro e w3 ⟨rfl, hb⟩
        have B3 : Hid (Below w.heap.size w w3) := chain ((Below.refl _ _).alloc (Nat.le_refl _) _) hb
        clear hb
        go_wp2_with fail
        refine Calls.mono (C2.out _ B3.out) ?_
        rintro e w4 ⟨rfl, hb⟩
        have B4 : Hid (Below w.heap.size w w4) := chain B3.out hb
        clear hb
        go_wp2_with fail
        refine Calls.mono (works_any _) ?_
        rintro e w5 ⟨rfl, hb⟩
        have B5 : Hid (Below w.heap.size w w5) := chain B4.out hb
        clear hb
        go_wp2
        go_ret
        exact ⟨rfl, B5.out⟩
    by_cases g4 : 4 < n
    · have g1 : (4 : Int) < (n : Int) := by omega
      have g2 : ¬ (n : Int) ≤ 16 := by omega
      have D1 : decide ((n : Int) ≤ 16) = false := by simpa using g2
      clear hg g2
      obtain ⟨⟨b, o, spot⟩, rfl⟩ : ∃ x, a = some x := by
        cases a with
        | none => exact absurd (ha rfl).1 hne
        | some x => exact ⟨x, rfl⟩
      obtain ⟨b', o', he, -⟩ := hc.out 0 (by have := hn.out; omega)
      obtain rfl : spot = none := by cases he; rfl
      have NW : Hid (∀ j v, (scells ks)[j]? = some v → (w.alloc (.cells #[] 9)).cell? (Addr.add ⟨b, o, none⟩ j) = some v) := by
        intro j v hv
        have hj : j < ks.length := by have := (List.getElem?_eq_some_iff.1 hv).1; simpa [scells] using this
        obtain ⟨b2, o2, he2, hcell⟩ := hc.out j hj
        cases he2
        have q : Addr.add ⟨b, o, none⟩ j = ⟨b, o + j, none⟩ := by first | (simp [Addr.add]; done) | (simp [Addr.add]; intro h; simp [h])
        rw [q]
        have e : v = .string ks[j] := by
          rw [show (scells ks)[j]? = some (.string ks[j]) by simp [scells, hj]] at hv
          exact (Option.some.inj hv).symm
        rw [e]
        exact cell_alloc hcell
      have OW : Hid ((w.alloc (.cells #[] 9)).ownsRow w.heap.size 9 1 (.slice (some ⟨w.heap.size, 0, none⟩) 0 0) 0 []) := ⟨rfl, .inr ⟨_, 0, #[], rfl, Nat.le_refl _, heap_new _ _, Nat.le_refl _, by decide, rfl, rfl⟩⟩
      clear he ha
      go_enter Try.func5, Try.ntmps5
      go_wp2_with (first
        | (at_builtin; refine wpList_append_own _ rfl (.tmp 20) (.tmp 21) 28 rfl w.heap.size 9 i0 (.string ⟨#[]⟩) 1 16 Try.underlying28 hi hz0 hz1 hz2 rfl (by decide) _ _ _ rfl OW.out ⟨b, o, none⟩ n cap (scells ks) rfl (by rw [Nat.mul_one]; simpa [scells] using hn.out) NW.out (by intro v hv; simp only [scells, List.mem_map] at hv; obtain ⟨x, -, rfl⟩ := hv; rfl) (by unfold maxLen; omega) (by omega) (by simp) ?_; intro v1 w2 hown1 hgrow1 hnil1; simp only [Nat.zero_add, List.nil_append] at hown1))
      have O2 : Hid (w2.ownsRow w.heap.size 9 1 v1 n (scells ks) ∧ Below w.heap.size w w2) := ⟨hown1, ((Below.refl _ _).alloc (Nat.le_refl _) _).grown hgrow1 (by simp) (fun k hk => (OW.out.lt k hk).1)⟩
      clear hown1 hgrow1 hnil1
      obtain ⟨-, hor⟩ := owns_strs O2.out.1
      rcases hor with ⟨-, h⟩ | ⟨g, c, rfl, hstr⟩
      · exact absurd h hne
      have HST : Hid (StrAt w2 (some ⟨g, 0, none⟩) ks ∧ Below w.heap.size w w2) := ⟨hstr, O2.out.2⟩
      clear hstr
      go_wp2_with fail
      refine Calls.mono (C1.out _ _ _ HST.out.1) ?_
      rintro e w3 ⟨rfl, hb⟩
      have B3 : Hid (Below w.heap.size w w3) := chain HST.out.2 hb
      clear hb
      go_wp2_with fail
      refine Calls.mono (C2.out _ B3.out) ?_
      rintro e w4 ⟨rfl, hb⟩
      have B4 : Hid (Below w.heap.size w w4) := chain B3.out hb
      clear hb
      go_wp2_with fail
      refine Calls.mono (works_any _) ?_
      rintro e w5 ⟨rfl, hb⟩
      have B5 : Hid (Below w.heap.size w w5) := chain B4.out hb
      clear hb
      go_wp2
      go_ret
      exact ⟨rfl, B5.out⟩
    · have g1 : ¬ (4 : Int) < (n : Int) := by omega
      have D1 : decide ((4 : Int) < (n : Int)) = false := by simpa using g1
      clear hg g1
      obtain ⟨⟨b, o, spot⟩, rfl⟩ : ∃ x, a = some x := by
        cases a with
        | none => exact absurd (ha rfl).1 hne
        | some x => exact ⟨x, rfl⟩
      obtain ⟨b', o', he, -⟩ := hc.out 0 (by have := hn.out; omega)
      obtain rfl : spot = none := by cases he; rfl
      have NW : Hid (∀ j v, (scells ks)[j]? = some v → (w.alloc (.cells #[] 9)).cell? (Addr.add ⟨b, o, none⟩ j) = some v) := by
        intro j v hv
        have hj : j < ks.length := by have := (List.getElem?_eq_some_iff.1 hv).1; simpa [scells] using this
        obtain ⟨b2, o2, he2, hcell⟩ := hc.out j hj
        cases he2
        have q : Addr.add ⟨b, o, none⟩ j = ⟨b, o + j, none⟩ := by first | (simp [Addr.add]; done) | (simp [Addr.add]; intro h; simp [h])
        rw [q]
        have e : v = .string ks[j] := by
          rw [show (scells ks)[j]? = some (.string ks[j]) by simp [scells, hj]] at hv
          exact (Option.some.inj hv).symm
        rw [e]
        exact cell_alloc hcell
      have OW : Hid ((w.alloc (.cells #[] 9)).ownsRow w.heap.size 9 1 (.slice (some ⟨w.heap.size, 0, none⟩) 0 0) 0 []) := ⟨rfl, .inr ⟨_, 0, #[], rfl, Nat.le_refl _, heap_new _ _, Nat.le_refl _, by decide, rfl, rfl⟩⟩
      clear he ha
      go_enter Try.func5, Try.ntmps5
      go_wp2_with (first
        | (at_builtin; refine wpList_append_own _ rfl (.tmp 20) (.tmp 21) 28 rfl w.heap.size 9 i0 (.string ⟨#[]⟩) 1 16 Try.underlying28 hi hz0 hz1 hz2 rfl (by decide) _ _ _ rfl OW.out ⟨b, o, none⟩ n cap (scells ks) rfl (by rw [Nat.mul_one]; simpa [scells] using hn.out) NW.out (by intro v hv; simp only [scells, List.mem_map] at hv; obtain ⟨x, -, rfl⟩ := hv; rfl) (by unfold maxLen; omega) (by omega) (by simp) ?_; intro v1 w2 hown1 hgrow1 hnil1; simp only [Nat.zero_add, List.nil_append] at hown1))
      have O2 : Hid (w2.ownsRow w.heap.size 9 1 v1 n (scells ks) ∧ Below w.heap.size w w2) := ⟨hown1, ((Below.refl _ _).alloc (Nat.le_refl _) _).grown hgrow1 (by simp) (fun k hk => (OW.out.lt k hk).1)⟩
      clear hown1 hgrow1 hnil1
      obtain ⟨-, hor⟩ := owns_strs O2.out.1
      rcases hor with ⟨-, h⟩ | ⟨g, c, rfl, hstr⟩
      · exact absurd h hne
      have HST : Hid (StrAt w2 (some ⟨g, 0, none⟩) ks ∧ Below w.heap.size w w2) := ⟨hstr, O2.out.2⟩
      clear hstr
      go_wp2_with fail
      refine Calls.mono (C1.out _ _ _ HST.out.1) ?_
      rintro e w3 ⟨rfl, hb⟩
      have B3 : Hid (Below w.heap.size w w3) := chain HST.out.2 hb
      clear hb
      go_wp2_with fail
      refine Calls.mono (C2.out _ B3.out) ?_
      rintro e w4 ⟨rfl, hb⟩
      have B4 : Hid (Below w.heap.size w w4) := chain B3.out hb
      clear hb
      go_wp2_with fail
      refine Calls.mono (works_any _) ?_
      rintro e w5 ⟨rfl, hb⟩
      have B5 : Hid (Below w.heap.size w w5) := chain B4.out hb
      clear hb
      go_wp2
      go_ret
      exact ⟨rfl, B5.out⟩
end Go.Proofs.Ytdebfelgaiofeaa
