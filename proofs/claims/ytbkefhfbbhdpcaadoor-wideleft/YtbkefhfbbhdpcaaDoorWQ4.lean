/- The program's wide layer: the left half turned. -/
import Derived.Test.YtbkefhfbbhdpcaaDoorWQ3
import Derived.Test.YtbkefhfbbhdpcaaDoorGP
namespace Go.Proofs.YtbkefhfbbhdpcaaDoor
open Go.RowKit Go.Proofs.Fd Go.Proofs.Hs Go.Proofs.Cc Go.Proofs.Wd

set_option maxHeartbeats 1000000 in
theorem turnLeft_any (g : Nat) (k0 k1 k2 k3 L R k : ByteArray) (hk : Hid (k.size = 32)) (hL : Hid (L.size = 32)) (hR : Hid (R.size ≤ 8192)) (w : World) (hH : Hid (HAt w g k0 k1 k2 k3 L R)) (hK : Hid (Kh w)) :
    Calls Tryd.prog 30 #[.pointer (some ⟨g, 0, none⟩), .string k] w fun e w' => e = .returned (.tuple #[]) ∧ HAt w' g k0 k1 k2 k3 ⟨(stL k.data.toList L.data.toList R.data.toList).toArray⟩ R ∧ Below g w w' := by
  obtain ⟨T, hT⟩ : ∃ T : ByteArray, ⟨(hmac k.data.toList R.data.toList).toArray⟩ = T := ⟨_, rfl⟩
  have sT : T.size = 32 := by rw [← hT, ba_sz, hmac_len]
  obtain ⟨Y, hY⟩ : ∃ Y : ByteArray, ⟨(stL k.data.toList L.data.toList R.data.toList).toArray⟩ = Y := ⟨_, rfl⟩
  have XO : Hid (∀ w, Calls Tryd.prog 38 #[.string L, .string T] w fun e w' => e = .returned (.string Y) ∧ Below w.heap.size w w') := fun w => by
    have h := xored_any L T (by rw [hL.out]; decide) (by rw [hL.out, sT]; exact Nat.le_refl _) w
    have e : (⟨(xorl L.data.toList T.data.toList).toArray⟩ : ByteArray) = Y := by rw [← hY, ← hT]; rfl
    rw [e] at h
    exact h
  have TG : Hid (∀ (B : Nat) (w : World), Kh w → w.cell? ⟨B, 0, none⟩ = some (.string R) → Calls Tryd.prog 40 #[.string k, .slice (some ⟨B, 0, none⟩) 1 1] w fun e w' => e = .returned (.string T) ∧ Below w.heap.size w w') := fun B w h h0 => by
    have q := tag_c k (some ⟨B, 0, none⟩) [R] 1 1 w rfl (by show (1 : Nat) * 16 + 1024 ≤ _; decide) (by rw [hk.out]; show (32 : Nat) ≤ _; decide) (fun s hs => by
      simp at hs
      subst hs
      have := hR.out; omega) h (strAt1 h0)
    rw [jnd_one, hT] at q
    exact q
  rw [hY]
  clear hT hY sT
  obtain ⟨fz, -, -, -, -, c4, c5⟩ := hH.out
  have gl := hH.out.lt
  have gn : ¬ g = w.heap.size := by omega
  have gn2 : ¬ w.heap.size = g := by omega
  go_enter Tryd.func30, Tryd.ntmps30
  go_wp2
  go_region_with (first | (go_at_call 40; refine Calls.mono (TG.out w.heap.size _ (Kh.later hK.out ((Below.refl _ _).drew.alloc (Nat.le_refl _) _)) ?_) ?_; (focus simp [go_sem]); rintro e w1 ⟨rfl, hb1⟩; have H1 : Hid (HAt w1 g k0 k1 k2 k3 L R) := HAt.later (HAt.later (HAt.drew hH.out) ((Below.refl _ _).alloc (Nat.le_refl _) _)) hb1; have c41 := H1.out.2.2.2.2.2.1) | (go_at_call 38; refine Calls.mono (XO.out _) ?_; rintro e w2 ⟨rfl, hb2⟩; have H2 : Hid (HAt w2 g k0 k1 k2 k3 L R) := HAt.later H1.out hb2; have c42 := H2.out.2.2.2.2.2.1; have f42 := H2.out.1 4))
  all_goals
    exact bodyPost_end (results_none Tryd.results30 _ _ _) rfl ⟨rfl, H2.out.setL Y, ((chain (chain ((Below.refl _ _).drew.alloc (Nat.le_refl _) _) hb1) hb2).mono (Nat.le_of_lt hH.out.lt)).setCell (p := ⟨g, 4, none⟩) (Nat.le_refl _) _⟩
end Go.Proofs.YtbkefhfbbhdpcaaDoor
