/- HashPieces answers true. -/
import Derived.Test.YtdebfelgaiofeabDoorKR7
namespace Go.Proofs.YtdebfelgaiofeabDoor
open Go.RowKit Go.Proofs.Fd Go.Proofs.Hs

theorem jnd_bnd (ks : List ByteArray) : (jnd ks).length ≤ (bnd ks).length := by
  induction ks with
  | nil => exact Nat.le_refl _
  | cons x r ih =>
    have e1 : (jnd (x :: r)).length = x.data.toList.length + (jnd r).length := by unfold jnd; rw [List.flatMap_cons, List.length_append]
    have e2 : (bnd (x :: r)).length = (8 + x.data.toList.length) + (bnd r).length := by unfold bnd; rw [List.flatMap_cons, List.length_append, List.length_append, be8_len]
    omega

set_option maxHeartbeats 2000000 in
theorem HashPieces_walk (a : Option Addr) (ks : List ByteArray) (n cap : Nat) (hn : Hid (ks.length = n)) (hr : n * 16 ≤ 140737488351232) (hz : Hid ((bnd ks).length ≤ 140737488355328)) (m : Int) (w : World) (hk : Hid (Kh w)) (hc : Hid (StrAt w a ks)) (ha : a = none → n = 0 ∧ cap = 0) (hs : Hid (∀ s ∈ ks, s.size < 9223372036854775807)) :
    Calls Tryd.prog 4 #[.slice a n cap, .int .i64 m] w fun e w' => e = .returned (.bool true) ∧ Below w.heap.size w w' := by
  obtain ⟨i0, hi, hz0, hz1, hz2⟩ := info_parts infoStr
  have hj : Hid ((jnd ks).length ≤ 140737488355328) := Nat.le_trans (jnd_bnd ks) hz.out
  have C3 : Hid (∀ (a : Option Addr) (c : Nat) (w : World), Kh w → StrAt w a ks → Calls Tryd.prog 9 #[.slice a n c] w fun e w' => e = .returned (.string (shs ks)) ∧ Below w.heap.size w w') := fun a c w h h3 => Sum_any a ks n c hn (by omega) w h.1 h.2 h3 hs
  have C4 : Hid (∀ w', Below w.heap.size w w' → Calls Tryd.prog 14 #[.slice a n cap] w' fun e w'' => e = .returned (.string (shs ks)) ∧ Below w'.heap.size w' w'') := fun w' hb => rSum_any a ks n cap hn (by omega) hj w' (StrAt.later hc.out hb rfl)
  have C5 : Hid (∀ (a : Option Addr) (c : Nat) (w : World), Kh w → StrAt w a ks → Calls Tryd.prog 15 #[.slice a n c] w fun e w' => e = .returned (.string ⟨(sha (bnd ks)).toArray⟩) ∧ Below w.heap.size w w') := fun a c w h h3 => Bind_any a ks n c hn (by omega) w h.1 h.2 h3 hs
  have C6 : Hid (∀ w', Below w.heap.size w w' → Calls Tryd.prog 16 #[.slice a n cap] w' fun e w'' => e = .returned (.string ⟨(sha (bnd ks)).toArray⟩) ∧ Below w'.heap.size w' w'') := fun w' hb => rBind_any a ks n cap hn (by omega) hz w' (StrAt.later hc.out hb rfl) hs
  obtain ⟨X, e1, CC⟩ : ∃ (X : ByteArray) (e1 : Int), Hid ((∀ (a : Option Addr) (c : Nat) (w : World), Kh w → StrAt w a ks → Calls Tryd.prog 12 #[.int .i64 m, .slice a n c] w fun e w' => e = .returned (.tuple #[.string X, .int .i64 e1]) ∧ Below w.heap.size w w') ∧ (∀ w', Below w.heap.size w w' → Calls Tryd.prog 13 #[.int .i64 m, .slice a n cap] w' fun e w'' => e = .returned (.tuple #[.string X, .int .i64 e1]) ∧ Below w'.heap.size w' w'')) := by
    by_cases h : m < 1 ∨ 32 < m
    · exact ⟨⟨#[]⟩, 1, fun a c w _ _ => Short_no m h _ w, fun w' _ => rShort_no m h _ w'⟩
    · obtain ⟨q, rfl⟩ : ∃ q : Nat, m = (q : Int) := ⟨m.toNat, by omega⟩
      exact ⟨_, 0, fun a c w h1 h2 => Short_ok q (by omega) (by omega) a ks n c hn (by omega) w h1 h2 hs, fun w' hb => rShort_ok q (by omega) (by omega) a ks n cap hn (by omega) hj w' (StrAt.later hc.out hb rfl)⟩
  generalize shs ks = S at *
  generalize (⟨(sha (bnd ks)).toArray⟩ : ByteArray) = T at *
  have KH : Hid (∀ w', Below w.heap.size w w' → Kh w') := fun w' hb => hk.out.later hb
  clear hz hj hk hs
  by_cases hne : n = 0
  · subst hne
    obtain rfl : ks = [] := List.length_eq_zero_iff.1 hn.out
    have HST : Hid (∀ w', Below (World.heap (w.alloc (.cells #[] 9))).size (w.alloc (.cells #[] 9)) w' → (∀ a, StrAt w' a []) ∧ Kh w' ∧ Below w.heap.size w w') := fun w' h => by
      have hb := chain ((Below.refl _ _).alloc (Nat.le_refl _) (.cells #[] 9)) h
      exact ⟨fun a i hi => by simp at hi, KH.out _ hb, hb⟩
    cases a with
    | none =>
      obtain ⟨-, rfl⟩ := ha rfl
      clear ha
      go_enter Tryd.func4, Tryd.ntmps4
      go_wp2_with fail
      refine Calls.mono (CC.out.1 _ _ _ (HST.out _ (Below.refl _ _)).2.1 ((HST.out _ (Below.refl _ _)).1 _)) ?_
      rintro e w3 ⟨rfl, hb⟩
      have B3 : Hid (Below (World.heap (w.alloc (.cells #[] 9))).size (w.alloc (.cells #[] 9)) w3) := hb
      clear hb
      go_wp2_with fail
      refine Calls.mono (CC.out.2 _ (HST.out _ B3.out).2.2) ?_
      rintro e w4 ⟨rfl, hb⟩
      have B4 : Hid (Below (World.heap (w.alloc (.cells #[] 9))).size (w.alloc (.cells #[] 9)) w4) := chain B3.out hb
      clear hb CC
      go_wp2_with fail
      refine Calls.mono (C3.out _ _ _ (HST.out _ B4.out).2.1 ((HST.out _ B4.out).1 _)) ?_
      rintro e w5 ⟨rfl, hb⟩
      have B5 : Hid (Below (World.heap (w.alloc (.cells #[] 9))).size (w.alloc (.cells #[] 9)) w5) := chain B4.out hb
      clear hb C3
      go_wp2_with fail
      refine Calls.mono (C4.out _ (HST.out _ B5.out).2.2) ?_
      rintro e w6 ⟨rfl, hb⟩
      have B6 : Hid (Below (World.heap (w.alloc (.cells #[] 9))).size (w.alloc (.cells #[] 9)) w6) := chain B5.out hb
      clear hb C4
      go_wp2_with fail
      refine Calls.mono (C5.out _ _ _ (HST.out _ B6.out).2.1 ((HST.out _ B6.out).1 _)) ?_
      rintro e w7 ⟨rfl, hb⟩
      have B7 : Hid (Below (World.heap (w.alloc (.cells #[] 9))).size (w.alloc (.cells #[] 9)) w7) := chain B6.out hb
      clear hb C5
      go_wp2_with fail
      refine Calls.mono (C6.out _ (HST.out _ B7.out).2.2) ?_
      rintro e w8 ⟨rfl, hb⟩
      have B8 : Hid (Below (World.heap (w.alloc (.cells #[] 9))).size (w.alloc (.cells #[] 9)) w8) := chain B7.out hb
      clear hb C6
      go_wp2_with fail
      refine Calls.mono (works_any _ (HST.out _ B8.out).2.1) ?_
      rintro e w9 ⟨rfl, hb⟩
      have B9 : Hid (Below (World.heap (w.alloc (.cells #[] 9))).size (w.alloc (.cells #[] 9)) w9) := chain B8.out hb
      clear hb
      go_wp2
      go_ret
      exact ⟨rfl, (HST.out _ B9.out).2.2⟩
    | some x =>
      clear ha
      go_enter Tryd.func4, Tryd.ntmps4
      go_wp2_with fail
      refine Calls.mono (CC.out.1 _ _ _ (HST.out _ (Below.refl _ _)).2.1 ((HST.out _ (Below.refl _ _)).1 _)) ?_
      rintro e w3 ⟨rfl, hb⟩
      have B3 : Hid (Below (World.heap (w.alloc (.cells #[] 9))).size (w.alloc (.cells #[] 9)) w3) := hb
      clear hb
      go_wp2_with fail
      refine Calls.mono (CC.out.2 _ (HST.out _ B3.out).2.2) ?_
      rintro e w4 ⟨rfl, hb⟩
      have B4 : Hid (Below (World.heap (w.alloc (.cells #[] 9))).size (w.alloc (.cells #[] 9)) w4) := chain B3.out hb
      clear hb CC
      go_wp2_with fail
      refine Calls.mono (C3.out _ _ _ (HST.out _ B4.out).2.1 ((HST.out _ B4.out).1 _)) ?_
      rintro e w5 ⟨rfl, hb⟩
      have B5 : Hid (Below (World.heap (w.alloc (.cells #[] 9))).size (w.alloc (.cells #[] 9)) w5) := chain B4.out hb
      clear hb C3
      go_wp2_with fail
      refine Calls.mono (C4.out _ (HST.out _ B5.out).2.2) ?_
      rintro e w6 ⟨rfl, hb⟩
      have B6 : Hid (Below (World.heap (w.alloc (.cells #[] 9))).size (w.alloc (.cells #[] 9)) w6) := chain B5.out hb
      clear hb C4
      go_wp2_with fail
      refine Calls.mono (C5.out _ _ _ (HST.out _ B6.out).2.1 ((HST.out _ B6.out).1 _)) ?_
      rintro e w7 ⟨rfl, hb⟩
      have B7 : Hid (Below (World.heap (w.alloc (.cells #[] 9))).size (w.alloc (.cells #[] 9)) w7) := chain B6.out hb
      clear hb C5
      go_wp2_with fail
      refine Calls.mono (C6.out _ (HST.out _ B7.out).2.2) ?_
      rintro e w8 ⟨rfl, hb⟩
      have B8 : Hid (Below (World.heap (w.alloc (.cells #[] 9))).size (w.alloc (.cells #[] 9)) w8) := chain B7.out hb
      clear hb C6
      go_wp2_with fail
      refine Calls.mono (works_any _ (HST.out _ B8.out).2.1) ?_
      rintro e w9 ⟨rfl, hb⟩
      have B9 : Hid (Below (World.heap (w.alloc (.cells #[] 9))).size (w.alloc (.cells #[] 9)) w9) := chain B8.out hb
      clear hb
      go_wp2
      go_ret
      exact ⟨rfl, (HST.out _ B9.out).2.2⟩
  · obtain ⟨⟨b, o, spot⟩, rfl⟩ : ∃ x, a = some x := by
      cases a with
      | none => exact absurd (ha rfl).1 hne
      | some x => exact ⟨x, rfl⟩
    obtain ⟨b', o', he, -⟩ := hc.out 0 (by have := hn.out; omega)
    obtain rfl : spot = none := by cases he; rfl
    have NW : Hid (∀ j v, (scells ks)[j]? = some v → (w.alloc (.cells #[] 9)).cell? (Addr.add ⟨b, o, none⟩ j) = some v) := by
      intro j v hv
      have hj : j < ks.length := by have := (List.getElem?_eq_some_iff.1 hv).1; simpa [scells] using this
      obtain ⟨b2, o2, he2, hcell⟩ := hc.out j hj
      cases he2
      have q : Addr.add ⟨b, o, none⟩ j = ⟨b, o + j, none⟩ := by first | (simp [Addr.add]; done) | (simp [Addr.add]; intro h; simp [h])
      rw [q]
      have e : v = .string ks[j] := by
        rw [show (scells ks)[j]? = some (.string ks[j]) by simp [scells, hj]] at hv
        exact (Option.some.inj hv).symm
      rw [e]
      exact cell_alloc hcell
    have OW : Hid ((w.alloc (.cells #[] 9)).ownsRow w.heap.size 9 1 (.slice (some ⟨w.heap.size, 0, none⟩) 0 0) 0 []) := ⟨rfl, .inr ⟨_, 0, #[], rfl, Nat.le_refl _, heap_new _ _, Nat.le_refl _, by decide, rfl, rfl⟩⟩
    clear he ha
    go_enter Tryd.func4, Tryd.ntmps4
    go_wp2_with (first
      | (at_builtin; refine wpList_append_own _ rfl _ _ 26 rfl w.heap.size 9 i0 (.string ⟨#[]⟩) 1 16 Tryd.underlying26 hi hz0 hz1 hz2 rfl (by decide) _ _ _ rfl OW.out ⟨b, o, none⟩ n cap (scells ks) rfl (by rw [Nat.mul_one]; simpa [scells] using hn.out) NW.out (by intro v hv; simp only [scells, List.mem_map] at hv; obtain ⟨x, -, rfl⟩ := hv; rfl) (by unfold maxLen; omega) (by omega) (by simp) ?_; intro v1 w2 hown1 hgrow1 hnil1; simp only [Nat.zero_add, List.nil_append] at hown1))
    have O2 : Hid (w2.ownsRow w.heap.size 9 1 v1 n (scells ks) ∧ Below w.heap.size w w2) := ⟨hown1, ((Below.refl _ _).alloc (Nat.le_refl _) _).grown hgrow1 (by simp) (fun k hk => (OW.out.lt k hk).1)⟩
    clear hown1 hgrow1 hnil1
    obtain ⟨-, hor⟩ := owns_strs O2.out.1
    rcases hor with ⟨-, h⟩ | ⟨g, c, rfl, hstr⟩
    · exact absurd h hne
    have HST : Hid (∀ w', Below (World.heap w2).size w2 w' → StrAt w' (some ⟨g, 0, none⟩) ks ∧ Kh w' ∧ Below w.heap.size w w') := fun w' h => by
      have hb := chain O2.out.2 h
      exact ⟨StrAt.later hstr h rfl, KH.out _ hb, hb⟩
    clear hstr NW OW
    go_wp2_with fail
    refine Calls.mono (CC.out.1 _ _ _ (HST.out _ (Below.refl _ _)).2.1 (HST.out _ (Below.refl _ _)).1) ?_
    rintro e w3 ⟨rfl, hb⟩
    have B3 : Hid (Below (World.heap w2).size w2 w3) := hb
    clear hb
    go_wp2_with fail
    refine Calls.mono (CC.out.2 _ (HST.out _ B3.out).2.2) ?_
    rintro e w4 ⟨rfl, hb⟩
    have B4 : Hid (Below (World.heap w2).size w2 w4) := chain B3.out hb
    clear hb CC
    go_wp2_with fail
    refine Calls.mono (C3.out _ _ _ (HST.out _ B4.out).2.1 (HST.out _ B4.out).1) ?_
    rintro e w5 ⟨rfl, hb⟩
    have B5 : Hid (Below (World.heap w2).size w2 w5) := chain B4.out hb
    clear hb C3
    go_wp2_with fail
    refine Calls.mono (C4.out _ (HST.out _ B5.out).2.2) ?_
    rintro e w6 ⟨rfl, hb⟩
    have B6 : Hid (Below (World.heap w2).size w2 w6) := chain B5.out hb
    clear hb C4
    go_wp2_with fail
    refine Calls.mono (C5.out _ _ _ (HST.out _ B6.out).2.1 (HST.out _ B6.out).1) ?_
    rintro e w7 ⟨rfl, hb⟩
    have B7 : Hid (Below (World.heap w2).size w2 w7) := chain B6.out hb
    clear hb C5
    go_wp2_with fail
    refine Calls.mono (C6.out _ (HST.out _ B7.out).2.2) ?_
    rintro e w8 ⟨rfl, hb⟩
    have B8 : Hid (Below (World.heap w2).size w2 w8) := chain B7.out hb
    clear hb C6
    go_wp2_with fail
    refine Calls.mono (works_any _ (HST.out _ B8.out).2.1) ?_
    rintro e w9 ⟨rfl, hb⟩
    have B9 : Hid (Below (World.heap w2).size w2 w9) := chain B8.out hb
    clear hb
    go_wp2
    go_ret
    exact ⟨rfl, (HST.out _ B9.out).2.2⟩
end Go.Proofs.YtdebfelgaiofeabDoor
