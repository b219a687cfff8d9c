/- Parts: KD2, KD3, KE, PD, PE. -/
import Derived.Test.YtbogoheigbiegaaDoorZgG11
import Derived.Test.YtbogoheigbiegaaDoorZgG07
namespace Go.Proofs.YtbogoheigbiegaaDoor
open Go.RowKit Go.Proofs.Fd Go.Proofs.Hs
set_option maxRecDepth 20000
theorem ba_size (l : List UInt8) : (⟨l.toArray⟩ : ByteArray).size = l.length := by
  show l.toArray.size = _; simp
end Go.Proofs.YtbogoheigbiegaaDoor
namespace Go.Proofs.YtbogoheigbiegaaDoor
open Go.RowKit Go.Proofs.Fd Go.Proofs.Hs
set_option maxRecDepth 20000
end Go.Proofs.YtbogoheigbiegaaDoor
namespace Go.Proofs.YtbogoheigbiegaaDoor
open Go.RowKit Go.Proofs.Fd Go.Proofs.Hs
set_option maxRecDepth 20000
def TagC : Prop := ∀ (key : ByteArray) (a : Option Addr) (ks : List ByteArray) (n cap : Nat) (w : World), Hid (ks.length = n) → Hid (n * 16 + 1024 ≤ 140737488355328) → Hid (key.size ≤ 140737488355328) → Hid (∀ s ∈ ks, s.size ≤ 140737488355328) → Hid (Kh w) → Hid (StrAt w a ks) →
    Calls Tryd.prog 25 #[.string key, .slice a n cap] w fun e w' => e = .returned (.string ⟨(hmac key.data.toList (jnd ks)).toArray⟩) ∧ Below w.heap.size w w'
def SameC : Prop := ∀ (a b : ByteArray) (w : World), Hid (a.size ≤ 140737488355328) → Hid (b.size ≤ 140737488355328) →
    Calls Tryd.prog 51 #[.string a, .string b] w fun e w' => e = .returned (.bool (a.toList == b.toList)) ∧ Below w.heap.size w w'
theorem strAt3 {w : World} {B : Nat} {x y z : ByteArray} (h0 : w.cell? ⟨B, 0, none⟩ = some (.string x)) (h1 : w.cell? ⟨B, 1, none⟩ = some (.string y)) (h2 : w.cell? ⟨B, 2, none⟩ = some (.string z)) : StrAt w (some ⟨B, 0, none⟩) [x, y, z] := fun i hi => by
  refine ⟨B, 0, rfl, ?_⟩
  rcases (by simp at hi; omega : i = 0 ∨ i = 1 ∨ i = 2) with rfl | rfl | rfl
  · exact h0
  · exact h1
  · exact h2
end Go.Proofs.YtbogoheigbiegaaDoor
namespace Go.Proofs.YtbogoheigbiegaaDoor
open Go.RowKit Go.Proofs.Fd Go.Proofs.Hs
set_option maxRecDepth 20000
set_option maxHeartbeats 1000000 in
theorem tag_any (xi xo : ByteArray) (a : Option Addr) (ks : List ByteArray) (n cap : Nat) (w : World) (hn : Hid (ks.length = n)) (hb : Hid (n * 16 + 1024 ≤ 140737488355328)) (hx : Hid (xi.size ≤ 140737488355328 ∧ xo.size ≤ 140737488355328)) (hs : Hid (∀ s ∈ ks, s.size ≤ 140737488355328)) (hK : Hid (Kh w)) (hc : Hid (StrAt w a ks)) :
    Calls Tryd.prog 45 #[.agg #[.string xi, .string xo], .slice a n cap] w fun e w' => e = .returned (.string ⟨(sha (xo.data.toList ++ sha (xi.data.toList ++ jnd ks))).toArray⟩) ∧ Below w.heap.size w w' := by
  obtain ⟨D, hD⟩ : ∃ D : ByteArray, ⟨(sha (xi.data.toList ++ jnd ks)).toArray⟩ = D := ⟨_, rfl⟩
  have DL : Hid (D.size = 32 ∧ sha (xi.data.toList ++ jnd ks) = D.data.toList) := by rw [← hD]; exact ⟨rfl, rfl⟩
  rw [DL.out.2]
  obtain ⟨R, hR⟩ : ∃ R : ByteArray, ⟨(sha (xo.data.toList ++ D.data.toList)).toArray⟩ = R := ⟨_, rfl⟩
  rw [hR]
  have C2 : Hid (∀ (B b1 : Nat) (w' : World), Below w.heap.size w w' → w'.cell? ⟨B, 0, none⟩ = some (.slice (some ⟨b1, 0, none⟩) 1 1) → w'.cell? ⟨B, 1, none⟩ = some (.slice a n cap) → w'.cell? ⟨b1, 0, none⟩ = some (.string xi) → Calls Tryd.prog 56 #[.slice (some ⟨B, 0, none⟩) 2 2] w' fun e w'' => ∃ g cap', e = .returned (.slice (some ⟨g, 0, none⟩) (n + 1) cap') ∧ StrAt w'' (some ⟨g, 0, none⟩) (xi :: ks) ∧ Below w'.heap.size w' w'') := fun B b1 w' h0 h1 h2 h3 =>
    Concat_two B b1 xi a ks n cap hn hb w' h1 h2 h3 (StrAt.later hc.out h0 rfl)
  have SM1 : Hid (∀ (g cp : Nat) (w' : World), Below w.heap.size w w' → StrAt w' (some ⟨g, 0, none⟩) (xi :: ks) → Calls Tryd.prog 55 #[.slice (some ⟨g, 0, none⟩) (n + 1) cp] w' fun e w'' => e = .returned (.string D) ∧ Below w'.heap.size w' w'') := fun g cp w' h0 h1 => by
    have k := hK.out.later h0
    have h := Sum_any (some ⟨g, 0, none⟩) (xi :: ks) (n + 1) cp (by show (xi :: ks).length = n + 1; rw [List.length_cons, hn.out]) (by have := hb.out; omega) w' k.1 k.2 h1 (fun s hs' => by
      rcases List.mem_cons.1 hs' with rfl | h
      · have := hx.out.1; omega
      · have := hs.out s h; omega)
    rw [← hD]
    exact h
  have SM2 : Hid (∀ (B : Nat) (w' : World), Below w.heap.size w w' → w'.cell? ⟨B, 0, none⟩ = some (.string xo) → w'.cell? ⟨B, 1, none⟩ = some (.string D) → Calls Tryd.prog 55 #[.slice (some ⟨B, 0, none⟩) 2 2] w' fun e w'' => e = .returned (.string R) ∧ Below w'.heap.size w' w'') := fun B w' h0 h1 h2 => by
    have k := hK.out.later h0
    have h := Sum_any (some ⟨B, 0, none⟩) [xo, D] 2 2 rfl (by omega) w' k.1 k.2 (strAt2 h1 h2) (fun s hs' => by
      simp at hs'
      rcases hs' with rfl | rfl
      · have := hx.out.2; omega
      · have := DL.out.1; omega)
    rw [← hR]
    simpa using h
  clear hD hR
  obtain ⟨W, hW⟩ : ∃ W, w.alloc (.cells #[.string xi, .string xo] 87) = W := ⟨_, rfl⟩
  have BW : Hid (Below w.heap.size w W ∧ W.cell? ⟨w.heap.size, 0, none⟩ = some (.string xi) ∧ W.cell? ⟨w.heap.size, 1, none⟩ = some (.string xo)) := by
    rw [← hW]
    exact ⟨(Below.refl _ _).alloc (Nat.le_refl _) _, by simp [go_sem], by simp [go_sem]⟩
  have KP : Hid (∀ w', Below W.heap.size W w' → Below W.heap.size W w' ∧ w'.cell? ⟨w.heap.size, 0, none⟩ = some (.string xi) ∧ w'.cell? ⟨w.heap.size, 1, none⟩ = some (.string xo)) := fun w' h => ⟨h, cell_later h BW.out.2.1, cell_later h BW.out.2.2⟩
  have BB : Hid (∀ w', Below W.heap.size W w' → Below w.heap.size w w') := fun w' h => chain BW.out.1 h
  go_enter Tryd.func45, Tryd.ntmps45
  go_wp2
  go_region_held3 (fun w' => Below W.heap.size W w' ∧ w'.cell? ⟨w.heap.size, 0, none⟩ = some (.string xi) ∧ w'.cell? ⟨w.heap.size, 1, none⟩ = some (.string xo)) (first | exact KP.out _ (Below.refl _ _).drew | exact KP.out _ (chain (And.left (by assumption)) hb3) | exact KP.out _ (chain (And.left (by assumption)) hb2) | exact KP.out _ (chain (And.left (by assumption)) hb1) | exact KP.out _ (Below.alloc (And.left (by assumption)) (Below.size (And.left (by assumption))) _) | assumption) (first | (go_at_call 56; refine Calls.mono (C2.out (W.heap.size + 1) W.heap.size _ (BB.out _ (And.left (by assumption))) ?_ ?_ ?_) ?_; (focus first | (simp [go_sem]; done)); (focus first | (simp [go_sem]; done)); (focus first | (simp [go_sem]; done)); rintro e w3 ⟨g, cp, rfl, SA, hb1⟩) | (go_at_call 55; revert SA; intro SA; refine Calls.mono (SM1.out _ _ _ (BB.out _ (And.left (by assumption))) SA) ?_; clear SA; rintro e w4 ⟨rfl, hb2⟩) | (go_at_call 55; refine Calls.mono (SM2.out _ _ (BB.out _ (And.left (by assumption))) ?_ ?_) ?_; (focus first | (simp [go_sem]; done)); (focus first | (simp [go_sem]; done)); rintro e w5 ⟨rfl, hb3⟩))
  all_goals
    rename_i hH
    have BF : Hid (Below w.heap.size w w5) := BB.out _ hH.1
    clear hH
    go_wp2
    go_ret
    exact ⟨rfl, BF.out⟩
end Go.Proofs.YtbogoheigbiegaaDoor
namespace Go.Proofs.YtbogoheigbiegaaDoor
open Go.RowKit Go.Proofs.Fd Go.Proofs.Hs
set_option maxRecDepth 20000
theorem same_c : SameC := fun a b w ha hb => Same_any a b w ha hb
set_option maxHeartbeats 1000000 in
theorem tag_c : TagC := fun key a ks n cap w hn hb hk hs hK hc => by
  obtain ⟨XI, hXI⟩ : ∃ X : ByteArray, ⟨(xk 54 key.data.toList).toArray⟩ = X := ⟨_, rfl⟩
  obtain ⟨XO, hXO⟩ : ∃ X : ByteArray, ⟨(xk 92 key.data.toList).toArray⟩ = X := ⟨_, rfl⟩
  have PA : Hid (∀ w', Kh w' → Calls Tryd.prog 44 #[.string key] w' fun e w'' => e = .returned (.agg #[.string XI, .string XO]) ∧ Below w'.heap.size w' w'') := fun w' h => by
    rw [← hXI, ← hXO]; exact padded_any key w' hk h
  have TG : Hid (∀ w', Below w.heap.size w w' → Calls Tryd.prog 45 #[.agg #[.string XI, .string XO], .slice a n cap] w' fun e w'' => e = .returned (.string ⟨(hmac key.data.toList (jnd ks)).toArray⟩) ∧ Below w'.heap.size w' w'') := fun w' h => by
    have h := tag_any XI XO a ks n cap w' hn hb ⟨by rw [← hXI, ba_size, xk_len]; decide, by rw [← hXO, ba_size, xk_len]; decide⟩ hs (hK.out.later h) (StrAt.later hc.out h rfl)
    rw [← hXI, ← hXO] at h ⊢
    exact h
  clear hXI hXO
  generalize (⟨(hmac key.data.toList (jnd ks)).toArray⟩ : ByteArray) = R at *
  have BB : Hid (Kh w) := hK
  go_enter Tryd.func25, Tryd.ntmps25
  go_wp2_with fail
  refine Calls.mono (PA.out _ BB.out) ?_
  rintro e w1 ⟨rfl, hb1⟩
  have B1 : Hid (Below w.heap.size w w1) := hb1
  clear hb1 PA
  go_wp2_with fail
  refine Calls.mono (TG.out _ B1.out) ?_
  rintro e w2 ⟨rfl, hb2⟩
  have B2 : Hid (Below w.heap.size w w2) := chain B1.out hb2
  clear hb2 TG
  go_wp2
  go_ret
  exact ⟨rfl, B2.out⟩
end Go.Proofs.YtbogoheigbiegaaDoor
