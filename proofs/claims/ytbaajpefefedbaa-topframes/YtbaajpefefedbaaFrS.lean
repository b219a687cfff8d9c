/- Lists of strings appended to rows of the call's own. -/
import Derived.Test.YtbaajpefefedbaaFrA
import Derived.Laws.OwnMore
namespace Go.Proofs.Ytbaajpefefedbaa
open Go.RowKit Go.Proofs.Fd Go.Proofs.Fr
set_option maxRecDepth 20000

theorem StrAt.each {w : World} {a : Addr} {ks : List ByteArray} (h : StrAt w (some a) ks) : ∀ j u, (scells ks)[j]? = some u → w.cell? (a.add j) = some u := by
  intro j u hu
  have hj : j < ks.length := by have := (List.getElem?_eq_some_iff.1 hu).1; rw [scells_len] at this; exact this
  obtain ⟨b, o, e, hc⟩ := h j hj
  injection e with e
  subst e
  rw [add_at, hc, ← hu]
  simp [scells, hj]
theorem app_strs (w : World) (ty base : Nat) (v : Value) (m : Nat) (xs : List Value) (hown : w.ownsRow base 9 1 v m xs) (a : Option Addr) (ks : List ByteArray) (n cap : Nat) (hn : ks.length = n) (ha : a = none → n = 0 ∧ cap = 0) (hc : StrAt w a ks) (hz : (m + n) * 16 ≤ 140737488355328) (hb : base ≤ w.heap.size) :
    ∃ v' w', (Builtin.append_ #[23, 23] ty #[v, .slice a n cap]).run Try.prog w = .ok v' w' ∧ w'.ownsRow base 9 1 v' (m + n) (xs ++ scells ks) ∧ w.grownBy w' v.ownBlock := by
  obtain ⟨i0, hi, hz0, hz1, hz2⟩ := info_parts infoStr
  cases a with
  | none =>
    obtain ⟨rfl, rfl⟩ := ha rfl
    obtain rfl := List.length_eq_zero_iff.1 hn
    exact ⟨v, w, run_append_owned_none (P := Try.prog) w base 23 ty 9 i0 1 Try.underlying23 hi v m xs hown, by simpa [scells] using hown, ⟨rfl, rfl, rfl, Nat.le_refl _, fun _ _ _ => rfl⟩⟩
  | some a =>
    obtain ⟨v', w', h1, h2, h3, -⟩ := run_append_own (P := Try.prog) w base 23 ty 9 i0 (.string ⟨#[]⟩) 1 16 Try.underlying23 hi hz0 hz1 hz2 rfl (by decide) v m xs hown a n cap (scells ks) (by rw [scells_len, hn]; omega) hc.each (scells_one ks) (by unfold maxLen; omega) hz hb
    exact ⟨v', w', h1, h2, h3⟩
theorem own_strAt {w : World} {base n : Nat} {v : Value} {l : List ByteArray} (h : w.ownsRow base 9 1 v n (scells l)) : l.length = n ∧ ∃ a cap, v = .slice a n cap ∧ StrAt w a l ∧ (a = none → n = 0 ∧ cap = 0) := by
  obtain ⟨h1, h2⟩ := owns_strs h
  refine ⟨h1, ?_⟩
  rcases h2 with ⟨rfl, rfl⟩ | ⟨g, cap, rfl, hc⟩
  · exact ⟨none, 0, rfl, fun i hi => by omega, fun _ => ⟨rfl, rfl⟩⟩
  · exact ⟨_, cap, rfl, hc, fun h => (by cases h)⟩
/-- append([]string{}, l...) -/
theorem copy_strs (w : World) (ty : Nat) (a : Option Addr) (ks : List ByteArray) (n cap : Nat) (hn : ks.length = n) (ha : a = none → n = 0 ∧ cap = 0) (hc : StrAt w a ks) (hz : n * 16 ≤ 140737488355328) :
    ∃ v' w', (Builtin.append_ #[23, 23] ty #[.slice (some ⟨w.heap.size, 0, none⟩) 0 0, .slice a n cap]).run Try.prog (w.alloc (.cells #[] 9)) = .ok v' w' ∧ w'.ownsRow w.heap.size 9 1 v' n (scells ks) ∧ Below w.heap.size w w' := by
  have hb : Below w.heap.size w (w.alloc (.cells #[] 9)) := (Below.refl _ _).alloc (Nat.le_refl _) _
  have o0 := World.ownsRow_made (base := w.heap.size) (e := 9) (size := 1) w #[] 0 (Nat.le_refl _) (Nat.zero_le _) rfl
  obtain ⟨v', w', h1, h2, h3⟩ := app_strs _ ty w.heap.size _ 0 [] o0 a ks n cap hn ha (hc.later hb rfl) (by omega) (by simp)
  refine ⟨v', w', h1, by simpa using h2, hb.grown h3 (by simp) (fun k hk => (o0.lt k hk).1)⟩
/-- append(append([]string{}, l...), m...) -/
theorem join_strs (w : World) (ty ty2 : Nat) (a : Option Addr) (ks : List ByteArray) (n cap : Nat) (hn : ks.length = n) (ha : a = none → n = 0 ∧ cap = 0) (hc : StrAt w a ks) (a2 : Option Addr) (ks2 : List ByteArray) (n2 cap2 : Nat) (hn2 : ks2.length = n2) (ha2 : a2 = none → n2 = 0 ∧ cap2 = 0) (hc2 : StrAt w a2 ks2) (hz : (n + n2) * 16 ≤ 140737488355328) :
    ∃ v1 w1 v2 w2 a3 cap3, (Builtin.append_ #[23, 23] ty #[.slice (some ⟨w.heap.size, 0, none⟩) 0 0, .slice a n cap]).run Try.prog (w.alloc (.cells #[] 9)) = .ok v1 w1
      ∧ (Builtin.append_ #[23, 23] ty2 #[v1, .slice a2 n2 cap2]).run Try.prog w1 = .ok v2 w2 ∧ Below w.heap.size w w2 ∧ v2 = .slice a3 (n + n2) cap3 ∧ StrAt w2 a3 (ks ++ ks2) ∧ (ks ++ ks2).length = n + n2 := by
  obtain ⟨v1, w1, h1, h2, h3⟩ := copy_strs w ty a ks n cap hn ha hc (by omega)
  obtain ⟨v2, w2, q1, q2, q3⟩ := app_strs w1 ty2 w.heap.size v1 n (scells ks) h2 a2 ks2 n2 cap2 hn2 ha2 (hc2.later h3 rfl) hz h3.size
  rw [← scells_app] at q2
  obtain ⟨r1, a3, cap3, r2, r3, -⟩ := own_strAt q2
  exact ⟨v1, w1, v2, w2, a3, cap3, h1, q1, h3.grown q3 h3.size (fun k hk => (h2.lt k hk).1), r2, r3, r1⟩
end Go.Proofs.Ytbaajpefefedbaa
