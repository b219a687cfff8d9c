/- The program's wide layer: its contracts hold. -/
import Derived.Test.YtbkefhfbbhdpcaaDoorWQ4
import Derived.Test.YtbkefhfbbhdpcaaDoorWQ2
import Derived.Test.YtbkefhfbbhdpcaaDoorWE

/- The program's wide layer: blocks parted, shut, opened. -/
namespace Go.Proofs.YtbkefhfbbhdpcaaDoor
open Go.RowKit Go.Proofs.Fd Go.Proofs.Hs Go.Proofs.Cc Go.Proofs.Wd

theorem wks_size (key : ByteArray) (i : Nat) (h : i < 4) : (wks key i).size = 32 := by unfold wks; rw [ba_sz, wkey_len _ _ h]
theorem wks_data (key : ByteArray) (i : Nat) : (wks key i).data.toList = wkey key.data.toList i := rfl

set_option maxHeartbeats 1000000 in
theorem wrong_any (n : Int) (w : World) :
    Calls Tryd.prog 18 #[.int .i64 n] w fun e w' => e = .returned (.int .i64 (wmay n)) ∧ w' = w := by
  by_cases h1 : n < 64
  · have E : Hid (wmay n = 3) := wmay_form n h1
    go_enter Tryd.func18, Tryd.ntmps18
    go_wp2
    go_ret
    exact ⟨by rw [E.out]; rfl, rfl⟩
  · have g1 : 64 ≤ n := by omega
    by_cases h2 : 8192 < n
    · have E : Hid (wmay n = 2) := wmay_long n h2
      go_enter Tryd.func18, Tryd.ntmps18
      go_wp2
      go_ret
      exact ⟨by rw [E.out]; rfl, rfl⟩
    · have E : Hid (wmay n = 0) := wmay_ok n g1 (by omega)
      go_enter Tryd.func18, Tryd.ntmps18
      go_wp2
      go_ret
      exact ⟨by rw [E.out]; rfl, rfl⟩

theorem HAt.range {w : World} {b : Nat} {x0 x1 x2 x3 x4 x5 : ByteArray} (h : HAt w b x0 x1 x2 x3 x4 x5) : w.rangeAt b 0 [.string x0, .string x1, .string x2, .string x3, .string x4, .string x5] := by
  obtain ⟨-, h0, h1, h2, h3, h4, h5⟩ := h
  intro j v hv
  rcases (by have := (List.getElem?_eq_some_iff.1 hv).1; simp at this; omega : j = 0 ∨ j = 1 ∨ j = 2 ∨ j = 3 ∨ j = 4 ∨ j = 5) with rfl | rfl | rfl | rfl | rfl | rfl
  · simp at hv; subst hv; simpa using h0
  · simp at hv; subst hv; simpa using h1
  · simp at hv; subst hv; simpa using h2
  · simp at hv; subst hv; simpa using h3
  · simp at hv; subst hv; simpa using h4
  · simp at hv; subst hv; simpa using h5
theorem HAt.whole {w : World} {b : Nat} {x0 x1 x2 x3 x4 x5 : ByteArray} (h : HAt w b x0 x1 x2 x3 x4 x5) (y0 y1 y2 y3 y4 y5 : ByteArray) :
    HAt ((((((w.setCell ⟨b, 0, none⟩ (.string y0)).setCell ⟨b, 1, none⟩ (.string y1)).setCell ⟨b, 2, none⟩ (.string y2)).setCell ⟨b, 3, none⟩ (.string y3)).setCell ⟨b, 4, none⟩ (.string y4)).setCell ⟨b, 5, none⟩ (.string y5)) b y0 y1 y2 y3 y4 y5 := by
  obtain ⟨f, h0, h1, h2, h3, h4, h5⟩ := h
  refine ⟨fun o => by simp [go_sem, f], ?_, ?_, ?_, ?_, ?_, ?_⟩ <;> simp [go_sem, h0, h1, h2, h3, h4, h5]
theorem HAt.new (w : World) (t : TypeId) (y0 y1 y2 y3 y4 y5 : ByteArray) : HAt (w.alloc (.cells #[.string y0, .string y1, .string y2, .string y3, .string y4, .string y5] t)) w.heap.size y0 y1 y2 y3 y4 y5 :=
  ⟨fun o => by simp [go_sem], by simp [go_sem], by simp [go_sem], by simp [go_sem], by simp [go_sem], by simp [go_sem], by simp [go_sem]⟩
theorem below_put6 {B : Nat} {a w : World} (h : Below B a w) {c : Nat} (hc : B ≤ c) (y0 y1 y2 y3 y4 y5 : Value) :
    Below B a ((((((w.setCell ⟨c, 0, none⟩ y0).setCell ⟨c, 1, none⟩ y1).setCell ⟨c, 2, none⟩ y2).setCell ⟨c, 3, none⟩ y3).setCell ⟨c, 4, none⟩ y4).setCell ⟨c, 5, none⟩ y5) :=
  (((((h.setCell (p := ⟨c, 0, none⟩) hc _).setCell (p := ⟨c, 1, none⟩) hc _).setCell (p := ⟨c, 2, none⟩) hc _).setCell (p := ⟨c, 3, none⟩) hc _).setCell (p := ⟨c, 4, none⟩) hc _).setCell (p := ⟨c, 5, none⟩) hc _
theorem res_halves (tmps : Array Value) (w : World) (b : Nat) (x : Array Value) (h0 : tmps.getD 4 undef = .pointer (some ⟨b, 0, none⟩))
    (l1 : (loadVar 35 ⟨b, 0, none⟩).run Tryd.prog w = .ok (.agg x) w) :
    (results Tryd.f19 tmps).run Tryd.prog w = .ok (.agg x) w := by
  unfold results
  rw [Tryd.results19]
  have h0' : tmps[4]?.getD undef = .pointer (some ⟨b, 0, none⟩) := by simpa using h0
  simp [h0', l1, asAddr]

set_option maxHeartbeats 1000000 in
theorem parted_any (key block : ByteArray) (hk : Hid (key.size + 64 ≤ 140737488355328)) (hb : 64 ≤ block.size) (hb2 : block.size ≤ 8192) (w : World) (hK : Hid (Kh w)) :
    Calls Tryd.prog 19 #[.string key, .string block] w fun e w' => e = .returned (.agg #[.string (wks key 0), .string (wks key 1), .string (wks key 2), .string (wks key 3), .string (block.extract 0 32), .string (block.extract 32 block.size)]) ∧ Below w.heap.size w w' := by
  have DV : Hid (∀ w, Kh w → Calls Tryd.prog 28 #[.string key] w fun e w' => e = .returned (.agg #[.string (wks key 0), .string (wks key 1), .string (wks key 2), .string (wks key 3)]) ∧ Below w.heap.size w w') := fun w h => derived_any key hk w h
  generalize wks key 0 = k0 at *
  generalize wks key 1 = k1 at *
  generalize wks key 2 = k2 at *
  generalize wks key 3 = k3 at *
  have g1 : (32 : Int) ≤ (block.size : Int) := by omega
  have g2 : (block.size : Int) ≤ 8192 := by omega
  go_enter Tryd.func19, Tryd.ntmps19
  go_wp2
  obtain ⟨A, hA⟩ : ∃ A, w.alloc (.cells #[.string ⟨#[]⟩, .string ⟨#[]⟩, .string ⟨#[]⟩, .string ⟨#[]⟩, .string ⟨#[]⟩, .string ⟨#[]⟩] 35) = A := ⟨_, rfl⟩
  rw [hA]
  have I : Hid (HAt A w.heap.size ⟨#[]⟩ ⟨#[]⟩ ⟨#[]⟩ ⟨#[]⟩ ⟨#[]⟩ ⟨#[]⟩ ∧ Below w.heap.size w A ∧ Kh A) := by
    rw [← hA]
    exact ⟨HAt.new _ _ _ _ _ _ _ _, (Below.refl _ _).alloc (Nat.le_refl _) _, hK.out.alloc _⟩
  clear hA
  go_region_with (first | (go_at_call 28; refine Calls.mono (DV.out _ I.out.2.2) ?_; rintro e w1 ⟨rfl, hb1⟩; have H1 : Hid (HAt w1 w.heap.size ⟨#[]⟩ ⟨#[]⟩ ⟨#[]⟩ ⟨#[]⟩ ⟨#[]⟩ ⟨#[]⟩) := HAt.later (HAt.drew I.out.1) hb1; obtain ⟨fz, c0, c1, c2, c3, c4, c5⟩ := H1.out; have f0 := fz 0; have f1 := fz 1; have f2 := fz 2; have f3 := fz 3; have f4 := fz 4; have f5 := fz 5; clear fz))
  have FF : Hid (_ ∧ _) := And.intro (HAt.whole H1.out k0 k1 k2 k3 (block.extract 0 32) (block.extract 32 block.size)) (below_put6 (chain (chain I.out.2.1 (Below.refl _ _).drew) hb1) (Nat.le_refl w.heap.size) (.string k0) (.string k1) (.string k2) (.string k3) (.string (block.extract 0 32)) (.string (block.extract 32 block.size)))
  clear H1 c0 c1 c2 c3 c4 c5 f0 f1 f2 f3 f4 f5
  go_wp2
  refine bodyPost_ret (v := .agg #[.string k0, .string k1, .string k2, .string k3, .string (block.extract 0 32), .string (block.extract 32 block.size)]) ?_ rfl ⟨rfl, FF.out.2⟩
  exact res_halves _ _ w.heap.size _ (by kernel_rfl) (run_loadVar_mid _ w.heap.size 0 35 [.string k0, .string k1, .string k2, .string k3, .string (block.extract 0 32), .string (block.extract 32 block.size)] _ (HAt.range FF.out.1) Tryd.underlying35 rfl (by kernel_rfl))
end Go.Proofs.YtbkefhfbbhdpcaaDoor

/- The program's wide layer: halves shut and opened. -/
namespace Go.Proofs.YtbkefhfbbhdpcaaDoor
open Go.RowKit Go.Proofs.Fd Go.Proofs.Hs Go.Proofs.Cc Go.Proofs.Wd
set_option maxRecDepth 20000

theorem Kh.above {w w' : World} {g : Nat} (h : Kh w) (hg : 1 < g) (hb : Below g w w') : Kh w' := ⟨Nat.lt_of_lt_of_le h.1 hb.size, h.2.later hb hg⟩
def sR (k l r : ByteArray) : ByteArray := ⟨(stR k.data.toList l.data.toList r.data.toList).toArray⟩
def sL (k l r : ByteArray) : ByteArray := ⟨(stL k.data.toList l.data.toList r.data.toList).toArray⟩
theorem sR_size (k l r : ByteArray) : (sR k l r).size = r.size := by unfold sR; rw [ba_sz, stR_len, list_sz]
theorem sL_size (k l r : ByteArray) (h : l.size = 32) : (sL k l r).size = 32 := by unfold sL; rw [ba_sz, stL_len _ _ _ (by rw [list_sz]; exact h)]

set_option maxHeartbeats 1000000 in
theorem hshut_any (g : Nat) (k0 k1 k2 k3 L R : ByteArray) (hs : Hid (k0.size = 32 ∧ k1.size = 32 ∧ k2.size = 32 ∧ k3.size = 32)) (hL : Hid (L.size = 32)) (hR : Hid (R.size ≤ 8192)) (w : World) (hH : Hid (HAt w g k0 k1 k2 k3 L R)) (hK : Hid (Kh w)) (hg : Hid (1 < g)) :
    Calls Tryd.prog 20 #[.pointer (some ⟨g, 0, none⟩)] w fun e w' => e = .returned (.tuple #[]) ∧ HAt w' g k0 k1 k2 k3 (sL k3 (sL k1 L (sR k0 L R)) (sR k2 (sL k1 L (sR k0 L R)) (sR k0 L R))) (sR k2 (sL k1 L (sR k0 L R)) (sR k0 L R)) ∧ Below g w w' := by
  have S0 : Hid (HAt w g k0 k1 k2 k3 L R ∧ Kh w ∧ Below g w w ∧ L.size = 32 ∧ R.size ≤ 8192) := ⟨hH.out, hK.out, Below.refl _ _, hL.out, hR.out⟩
  have TR : Hid (∀ (L R k : ByteArray) (w : World), k.size = 32 → L.size = 32 → R.size ≤ 8192 → HAt w g k0 k1 k2 k3 L R → Calls Tryd.prog 29 #[.pointer (some ⟨g, 0, none⟩), .string k] w fun e w' => e = .returned (.tuple #[]) ∧ HAt w' g k0 k1 k2 k3 L (sR k L R) ∧ Below g w w') := fun L R k w h1 h2 h3 h4 => turnRight_any g k0 k1 k2 k3 L R k h1 h2 h3 w h4
  have TL : Hid (∀ (L R k : ByteArray) (w : World), k.size = 32 → L.size = 32 → R.size ≤ 8192 → HAt w g k0 k1 k2 k3 L R → Kh w → Calls Tryd.prog 30 #[.pointer (some ⟨g, 0, none⟩), .string k] w fun e w' => e = .returned (.tuple #[]) ∧ HAt w' g k0 k1 k2 k3 (sL k L R) R ∧ Below g w w') := fun L R k w h1 h2 h3 h4 h5 => turnLeft_any g k0 k1 k2 k3 L R k h1 h2 h3 w h4 h5
  clear hH hK hL hR
  have q0 := S0.out.1.2.1
  go_enter Tryd.func20, Tryd.ntmps20
  go_wp2_with fail
  refine Calls.mono (TR.out L R k0 _ hs.out.1 S0.out.2.2.2.1 S0.out.2.2.2.2 S0.out.1) ?_
  rintro e w1 ⟨rfl, h1, b1⟩
  have S1 : Hid (HAt w1 g k0 k1 k2 k3 L (sR k0 L R) ∧ Kh w1 ∧ Below g w w1 ∧ ByteArray.size L = 32 ∧ ByteArray.size (sR k0 L R) ≤ 8192) := ⟨h1, S0.out.2.1.above hg.out b1, S0.out.2.2.1.trans b1, S0.out.2.2.2.1, by rw [sR_size]; exact S0.out.2.2.2.2⟩
  clear h1 b1 S0 q0
  have q1 := S1.out.1.2.2.1
  go_wp2_with fail
  refine Calls.mono (TL.out L (sR k0 L R) k1 _ hs.out.2.1 S1.out.2.2.2.1 S1.out.2.2.2.2 S1.out.1 S1.out.2.1) ?_
  rintro e w2 ⟨rfl, h2, b2⟩
  have S2 : Hid (HAt w2 g k0 k1 k2 k3 (sL k1 L (sR k0 L R)) (sR k0 L R) ∧ Kh w2 ∧ Below g w w2 ∧ ByteArray.size (sL k1 L (sR k0 L R)) = 32 ∧ ByteArray.size (sR k0 L R) ≤ 8192) := ⟨h2, S1.out.2.1.above hg.out b2, S1.out.2.2.1.trans b2, sL_size _ _ _ S1.out.2.2.2.1, S1.out.2.2.2.2⟩
  clear h2 b2 S1 q1
  have q2 := S2.out.1.2.2.2.1
  go_wp2_with fail
  refine Calls.mono (TR.out (sL k1 L (sR k0 L R)) (sR k0 L R) k2 _ hs.out.2.2.1 S2.out.2.2.2.1 S2.out.2.2.2.2 S2.out.1) ?_
  rintro e w3 ⟨rfl, h3, b3⟩
  have S3 : Hid (HAt w3 g k0 k1 k2 k3 (sL k1 L (sR k0 L R)) (sR k2 (sL k1 L (sR k0 L R)) (sR k0 L R)) ∧ Kh w3 ∧ Below g w w3 ∧ ByteArray.size (sL k1 L (sR k0 L R)) = 32 ∧ ByteArray.size (sR k2 (sL k1 L (sR k0 L R)) (sR k0 L R)) ≤ 8192) := ⟨h3, S2.out.2.1.above hg.out b3, S2.out.2.2.1.trans b3, S2.out.2.2.2.1, by rw [sR_size]; exact S2.out.2.2.2.2⟩
  clear h3 b3 S2 q2
  have q3 := S3.out.1.2.2.2.2.1
  go_wp2_with fail
  refine Calls.mono (TL.out (sL k1 L (sR k0 L R)) (sR k2 (sL k1 L (sR k0 L R)) (sR k0 L R)) k3 _ hs.out.2.2.2 S3.out.2.2.2.1 S3.out.2.2.2.2 S3.out.1 S3.out.2.1) ?_
  rintro e w4 ⟨rfl, h4, b4⟩
  have S4 : Hid (HAt w4 g k0 k1 k2 k3 (sL k3 (sL k1 L (sR k0 L R)) (sR k2 (sL k1 L (sR k0 L R)) (sR k0 L R))) (sR k2 (sL k1 L (sR k0 L R)) (sR k0 L R)) ∧ Kh w4 ∧ Below g w w4 ∧ ByteArray.size (sL k3 (sL k1 L (sR k0 L R)) (sR k2 (sL k1 L (sR k0 L R)) (sR k0 L R))) = 32 ∧ ByteArray.size (sR k2 (sL k1 L (sR k0 L R)) (sR k0 L R)) ≤ 8192) := ⟨h4, S3.out.2.1.above hg.out b4, S3.out.2.2.1.trans b4, sL_size _ _ _ S3.out.2.2.2.1, S3.out.2.2.2.2⟩
  clear h4 b4 S3 q3
  go_wp2
  exact bodyPost_end (results_none Tryd.results20 _ _ _) rfl ⟨rfl, S4.out.1, S4.out.2.2.1⟩

set_option maxHeartbeats 1000000 in
theorem hopen_any (g : Nat) (k0 k1 k2 k3 L R : ByteArray) (hs : Hid (k0.size = 32 ∧ k1.size = 32 ∧ k2.size = 32 ∧ k3.size = 32)) (hL : Hid (L.size = 32)) (hR : Hid (R.size ≤ 8192)) (w : World) (hH : Hid (HAt w g k0 k1 k2 k3 L R)) (hK : Hid (Kh w)) (hg : Hid (1 < g)) :
    Calls Tryd.prog 24 #[.pointer (some ⟨g, 0, none⟩)] w fun e w' => e = .returned (.tuple #[]) ∧ HAt w' g k0 k1 k2 k3 (sL k1 (sL k3 L R) (sR k2 (sL k3 L R) R)) (sR k0 (sL k1 (sL k3 L R) (sR k2 (sL k3 L R) R)) (sR k2 (sL k3 L R) R)) ∧ Below g w w' := by
  have S0 : Hid (HAt w g k0 k1 k2 k3 L R ∧ Kh w ∧ Below g w w ∧ L.size = 32 ∧ R.size ≤ 8192) := ⟨hH.out, hK.out, Below.refl _ _, hL.out, hR.out⟩
  have TR : Hid (∀ (L R k : ByteArray) (w : World), k.size = 32 → L.size = 32 → R.size ≤ 8192 → HAt w g k0 k1 k2 k3 L R → Calls Tryd.prog 29 #[.pointer (some ⟨g, 0, none⟩), .string k] w fun e w' => e = .returned (.tuple #[]) ∧ HAt w' g k0 k1 k2 k3 L (sR k L R) ∧ Below g w w') := fun L R k w h1 h2 h3 h4 => turnRight_any g k0 k1 k2 k3 L R k h1 h2 h3 w h4
  have TL : Hid (∀ (L R k : ByteArray) (w : World), k.size = 32 → L.size = 32 → R.size ≤ 8192 → HAt w g k0 k1 k2 k3 L R → Kh w → Calls Tryd.prog 30 #[.pointer (some ⟨g, 0, none⟩), .string k] w fun e w' => e = .returned (.tuple #[]) ∧ HAt w' g k0 k1 k2 k3 (sL k L R) R ∧ Below g w w') := fun L R k w h1 h2 h3 h4 h5 => turnLeft_any g k0 k1 k2 k3 L R k h1 h2 h3 w h4 h5
  clear hH hK hL hR
  have q3 := S0.out.1.2.2.2.2.1
  go_enter Tryd.func24, Tryd.ntmps24
  go_wp2_with fail
  refine Calls.mono (TL.out L R k3 _ hs.out.2.2.2 S0.out.2.2.2.1 S0.out.2.2.2.2 S0.out.1 S0.out.2.1) ?_
  rintro e w1 ⟨rfl, h1, b1⟩
  have S1 : Hid (HAt w1 g k0 k1 k2 k3 (sL k3 L R) R ∧ Kh w1 ∧ Below g w w1 ∧ ByteArray.size (sL k3 L R) = 32 ∧ ByteArray.size R ≤ 8192) := ⟨h1, S0.out.2.1.above hg.out b1, S0.out.2.2.1.trans b1, sL_size _ _ _ S0.out.2.2.2.1, S0.out.2.2.2.2⟩
  clear h1 b1 S0 q3
  have q2 := S1.out.1.2.2.2.1
  go_wp2_with fail
  refine Calls.mono (TR.out (sL k3 L R) R k2 _ hs.out.2.2.1 S1.out.2.2.2.1 S1.out.2.2.2.2 S1.out.1) ?_
  rintro e w2 ⟨rfl, h2, b2⟩
  have S2 : Hid (HAt w2 g k0 k1 k2 k3 (sL k3 L R) (sR k2 (sL k3 L R) R) ∧ Kh w2 ∧ Below g w w2 ∧ ByteArray.size (sL k3 L R) = 32 ∧ ByteArray.size (sR k2 (sL k3 L R) R) ≤ 8192) := ⟨h2, S1.out.2.1.above hg.out b2, S1.out.2.2.1.trans b2, S1.out.2.2.2.1, by rw [sR_size]; exact S1.out.2.2.2.2⟩
  clear h2 b2 S1 q2
  have q1 := S2.out.1.2.2.1
  go_wp2_with fail
  refine Calls.mono (TL.out (sL k3 L R) (sR k2 (sL k3 L R) R) k1 _ hs.out.2.1 S2.out.2.2.2.1 S2.out.2.2.2.2 S2.out.1 S2.out.2.1) ?_
  rintro e w3 ⟨rfl, h3, b3⟩
  have S3 : Hid (HAt w3 g k0 k1 k2 k3 (sL k1 (sL k3 L R) (sR k2 (sL k3 L R) R)) (sR k2 (sL k3 L R) R) ∧ Kh w3 ∧ Below g w w3 ∧ ByteArray.size (sL k1 (sL k3 L R) (sR k2 (sL k3 L R) R)) = 32 ∧ ByteArray.size (sR k2 (sL k3 L R) R) ≤ 8192) := ⟨h3, S2.out.2.1.above hg.out b3, S2.out.2.2.1.trans b3, sL_size _ _ _ S2.out.2.2.2.1, S2.out.2.2.2.2⟩
  clear h3 b3 S2 q1
  have q0 := S3.out.1.2.1
  go_wp2_with fail
  refine Calls.mono (TR.out (sL k1 (sL k3 L R) (sR k2 (sL k3 L R) R)) (sR k2 (sL k3 L R) R) k0 _ hs.out.1 S3.out.2.2.2.1 S3.out.2.2.2.2 S3.out.1) ?_
  rintro e w4 ⟨rfl, h4, b4⟩
  have S4 : Hid (HAt w4 g k0 k1 k2 k3 (sL k1 (sL k3 L R) (sR k2 (sL k3 L R) R)) (sR k0 (sL k1 (sL k3 L R) (sR k2 (sL k3 L R) R)) (sR k2 (sL k3 L R) R)) ∧ Kh w4 ∧ Below g w w4 ∧ ByteArray.size (sL k1 (sL k3 L R) (sR k2 (sL k3 L R) R)) = 32 ∧ ByteArray.size (sR k0 (sL k1 (sL k3 L R) (sR k2 (sL k3 L R) R)) (sR k2 (sL k3 L R) R)) ≤ 8192) := ⟨h4, S3.out.2.1.above hg.out b4, S3.out.2.2.1.trans b4, S3.out.2.2.2.1, by rw [sR_size]; exact S3.out.2.2.2.2⟩
  clear h4 b4 S3 q0
  go_wp2
  exact bodyPost_end (results_none Tryd.results24 _ _ _) rfl ⟨rfl, S4.out.1, S4.out.2.2.1⟩

set_option maxHeartbeats 1000000 in
theorem whole_any (g : Nat) (k0 k1 k2 k3 L R : ByteArray) (hs : Hid (L.size + R.size ≤ 140737488355328)) (w : World) (hH : Hid (HAt w g k0 k1 k2 k3 L R)) :
    Calls Tryd.prog 21 #[.pointer (some ⟨g, 0, none⟩)] w fun e w' => e = .returned (.string (L ++ R)) ∧ Below w.heap.size w w' := by
  obtain ⟨-, -, -, -, -, c4, c5⟩ := hH.out
  have hsum : L.size + R.size ≤ 140737488355328 := hs.out
  go_enter Tryd.func21, Tryd.ntmps21
  go_wp2
  go_quiet (fail)
  go_wp2
  go_ret
  trace_state
  exact ⟨rfl, below_drewN (Below.refl _ _) _⟩
end Go.Proofs.YtbkefhfbbhdpcaaDoor

/- The program's wide layer: blocks shut and opened: the calls. -/
namespace Go.Proofs.Wd
theorem run_shut (key l r : List UInt8) : run key [0, 1, 2, 3] (l, r) = (stL (wkey key 3) (stL (wkey key 1) l (stR (wkey key 0) l r)) (stR (wkey key 2) (stL (wkey key 1) l (stR (wkey key 0) l r)) (stR (wkey key 0) l r)), stR (wkey key 2) (stL (wkey key 1) l (stR (wkey key 0) l r)) (stR (wkey key 0) l r)) := by
  rw [run_cons, stp_even _ _ _ _ (by decide), run_cons, stp_odd _ _ _ _ (by decide), run_cons, stp_even _ _ _ _ (by decide), run_cons, stp_odd _ _ _ _ (by decide), run_nil]
theorem run_open (key l r : List UInt8) : run key [3, 2, 1, 0] (l, r) = (stL (wkey key 1) (stL (wkey key 3) l r) (stR (wkey key 2) (stL (wkey key 3) l r) r), stR (wkey key 0) (stL (wkey key 1) (stL (wkey key 3) l r) (stR (wkey key 2) (stL (wkey key 3) l r) r)) (stR (wkey key 2) (stL (wkey key 3) l r) r)) := by
  rw [run_cons, stp_odd _ _ _ _ (by decide), run_cons, stp_even _ _ _ _ (by decide), run_cons, stp_odd _ _ _ _ (by decide), run_cons, stp_even _ _ _ _ (by decide), run_nil]
end Go.Proofs.Wd
namespace Go.Proofs.YtbkefhfbbhdpcaaDoor
open Go.RowKit Go.Proofs.Fd Go.Proofs.Hs Go.Proofs.Cc Go.Proofs.Wd
set_option maxRecDepth 20000

theorem ba_app (a b : List UInt8) : (⟨a.toArray⟩ : ByteArray) ++ ⟨b.toArray⟩ = ⟨(a ++ b).toArray⟩ := by
  apply ByteArray.ext
  simp
theorem sR_data (k l r : ByteArray) : (sR k l r).data.toList = stR k.data.toList l.data.toList r.data.toList := rfl
theorem sL_data (k l r : ByteArray) : (sL k l r).data.toList = stL k.data.toList l.data.toList r.data.toList := rfl
theorem sR_def (k l r : ByteArray) : sR k l r = ⟨(stR k.data.toList l.data.toList r.data.toList).toArray⟩ := rfl
theorem sL_def (k l r : ByteArray) : sL k l r = ⟨(stL k.data.toList l.data.toList r.data.toList).toArray⟩ := rfl
/-- A block's halves. -/
def bL (b : ByteArray) : ByteArray := b.extract 0 32
def bR (b : ByteArray) : ByteArray := b.extract 32 b.size
theorem bL_data (b : ByteArray) : (bL b).data.toList = b.data.toList.take 32 := by
  have e : b = ⟨b.data.toList.toArray⟩ := ba_of rfl
  unfold bL
  rw [e, ba_cut]; simp
theorem bR_data (b : ByteArray) : (bR b).data.toList = b.data.toList.drop 32 := by
  have e : b = ⟨b.data.toList.toArray⟩ := ba_of rfl
  unfold bR
  rw [e, ba_cut, ba_sz]
  show (b.data.toList.drop 32).take _ = b.data.toList.drop 32
  rw [List.take_of_length_le (by rw [List.length_drop]; exact Nat.le_refl _)]
theorem bL_size (b : ByteArray) (h : 64 ≤ b.size) : (bL b).size = 32 := by rw [← list_sz, bL_data, List.length_take, list_sz]; omega
theorem bR_size (b : ByteArray) : (bR b).size = b.size - 32 := by rw [← list_sz, bR_data, List.length_drop, list_sz]
theorem shut_eq (key b : ByteArray) : sL (wks key 3) (sL (wks key 1) (bL b) (sR (wks key 0) (bL b) (bR b))) (sR (wks key 2) (sL (wks key 1) (bL b) (sR (wks key 0) (bL b) (bR b))) (sR (wks key 0) (bL b) (bR b))) ++ sR (wks key 2) (sL (wks key 1) (bL b) (sR (wks key 0) (bL b) (bR b))) (sR (wks key 0) (bL b) (bR b)) = ⟨(shutl key.data.toList b.data.toList).toArray⟩ := by
  rw [sL_def (wks key 3), sR_def (wks key 2), ba_app]
  simp only [sR_data, sL_data, wks_data, bL_data, bR_data]
  unfold shutl trnd
  rw [run_shut]
theorem open_eq (key b : ByteArray) : sL (wks key 1) (sL (wks key 3) (bL b) (bR b)) (sR (wks key 2) (sL (wks key 3) (bL b) (bR b)) (bR b)) ++ sR (wks key 0) (sL (wks key 1) (sL (wks key 3) (bL b) (bR b)) (sR (wks key 2) (sL (wks key 3) (bL b) (bR b)) (bR b))) (sR (wks key 2) (sL (wks key 3) (bL b) (bR b)) (bR b)) = ⟨(openl key.data.toList b.data.toList).toArray⟩ := by
  rw [sL_def (wks key 1), sR_def (wks key 0), ba_app]
  simp only [sR_data, sL_data, wks_data, bL_data, bR_data]
  unfold openl trnd
  rw [run_open]

set_option maxHeartbeats 1000000 in
theorem Shut_ok (key b : ByteArray) (hb : 64 ≤ b.size) (hb2 : b.size ≤ 8192) (hk : Hid (key.size + 64 ≤ 140737488355328)) (w : World) (hK : Hid (Kh w)) :
    Calls Tryd.prog 9 #[.string key, .string b] w fun e w' => e = .returned (.tuple #[.string ⟨(shutl key.data.toList b.data.toList).toArray⟩, .int .i64 0]) ∧ Below w.heap.size w w' := by
  have WR : Hid (∀ w, Calls Tryd.prog 18 #[.int .i64 (b.size : Int)] w fun e w' => e = .returned (.int .i64 0) ∧ w' = w) := fun w => by
    have h := wrong_any (b.size : Int) w
    rw [wmay_ok _ (by omega) (by omega)] at h
    exact h
  have PT : Hid (∀ w, Kh w → Calls Tryd.prog 19 #[.string key, .string b] w fun e w' => e = .returned (.agg #[.string (wks key 0), .string (wks key 1), .string (wks key 2), .string (wks key 3), .string (bL b), .string (bR b)]) ∧ Below w.heap.size w w') := fun w h => parted_any key b hk hb hb2 w h
  have SZ : Hid ((bL b).size = 32 ∧ (bR b).size ≤ 8192 ∧ (wks key 0).size = 32 ∧ (wks key 1).size = 32 ∧ (wks key 2).size = 32 ∧ (wks key 3).size = 32) := ⟨bL_size b hb, by rw [bR_size b]; omega, wks_size _ _ (by decide), wks_size _ _ (by decide), wks_size _ _ (by decide), wks_size _ _ (by decide)⟩
  rw [← shut_eq]
  generalize wks key 0 = k0 at *
  generalize wks key 1 = k1 at *
  generalize wks key 2 = k2 at *
  generalize wks key 3 = k3 at *
  generalize bL b = L at *
  generalize bR b = R at *
  have SH : Hid (∀ (g : Nat) (w : World), HAt w g k0 k1 k2 k3 L R → Kh w → 1 < g → Calls Tryd.prog 20 #[.pointer (some ⟨g, 0, none⟩)] w fun e w' => e = .returned (.tuple #[]) ∧ HAt w' g k0 k1 k2 k3 (sL k3 (sL k1 L (sR k0 L R)) (sR k2 (sL k1 L (sR k0 L R)) (sR k0 L R))) (sR k2 (sL k1 L (sR k0 L R)) (sR k0 L R)) ∧ Below g w w') := fun g w h1 h2 h3 => hshut_any g k0 k1 k2 k3 L R SZ.out.2.2 SZ.out.1 SZ.out.2.1 w h1 h2 h3
  have Z2 : Hid (ByteArray.size (sL k3 (sL k1 L (sR k0 L R)) (sR k2 (sL k1 L (sR k0 L R)) (sR k0 L R))) + ByteArray.size (sR k2 (sL k1 L (sR k0 L R)) (sR k0 L R)) ≤ 140737488355328) := by
    rw [sL_size _ _ _ (sL_size _ _ _ SZ.out.1), sR_size, sR_size]
    have := SZ.out.2.1
    show _ ≤ _
    omega
  generalize (sL k3 (sL k1 L (sR k0 L R)) (sR k2 (sL k1 L (sR k0 L R)) (sR k0 L R))) = L' at *
  generalize (sR k2 (sL k1 L (sR k0 L R)) (sR k0 L R)) = R' at *
  have WH : Hid (∀ (g : Nat) (w : World), HAt w g k0 k1 k2 k3 L' R' → Calls Tryd.prog 21 #[.pointer (some ⟨g, 0, none⟩)] w fun e w' => e = .returned (.string (L' ++ R')) ∧ Below w.heap.size w w') := fun g w h => whole_any g k0 k1 k2 k3 L' R' Z2 w h
  go_enter Tryd.func9, Tryd.ntmps9
  go_wp2_with fail
  refine Calls.mono (WR.out _) ?_
  rintro e w1 ⟨rfl, hw1⟩
  have hw2 := hw1.symm
  subst hw2
  go_wp2_with fail
  refine Calls.mono (PT.out _ hK.out) ?_
  rintro e w2 ⟨rfl, hb2⟩
  have B2 : Hid (Below w.heap.size w w2 ∧ Kh w2) := ⟨hb2, hK.out.later hb2⟩
  clear hb2 PT WR hw1
  go_wp2_with fail
  refine Calls.mono (SH.out w2.heap.size _ (HAt.new _ _ _ _ _ _ _ _) (B2.out.2.alloc _) B2.out.2.1) ?_
  rintro e w3 ⟨rfl, h3, hb3⟩
  have B3 : Hid (HAt w3 w2.heap.size k0 k1 k2 k3 L' R' ∧ Below w.heap.size w w3) := ⟨h3, chain B2.out.1 (((Below.refl _ _).alloc (Nat.le_refl _) _).trans hb3)⟩
  clear h3 hb3 SH
  go_wp2_with fail
  refine Calls.mono (WH.out w2.heap.size _ B3.out.1) ?_
  rintro e w4 ⟨rfl, hb4⟩
  have B4 : Hid (Below w.heap.size w w4) := chain B3.out.2 hb4
  clear hb4 WH
  go_wp2
  go_ret2
  exact ⟨rfl, B4.out⟩

set_option maxHeartbeats 1000000 in
theorem Shut_no (key b : ByteArray) (h : Hid (wmay (b.size : Int) ≠ 0)) (w : World) :
    Calls Tryd.prog 9 #[.string key, .string b] w fun e w' => e = .returned (.tuple #[.string ⟨#[]⟩, .int .i64 (wmay (b.size : Int))]) ∧ Below w.heap.size w w' := by
  have WR : Hid (∀ w, Calls Tryd.prog 18 #[.int .i64 (b.size : Int)] w fun e w' => e = .returned (.int .i64 (wmay (b.size : Int))) ∧ w' = w) := fun w => wrong_any (b.size : Int) w
  obtain ⟨e0, he⟩ : ∃ e0, wmay (b.size : Int) = e0 := ⟨_, rfl⟩
  rw [he] at WR h ⊢
  have hne : ¬ e0 = 0 := h.out
  clear he h
  go_enter Tryd.func9, Tryd.ntmps9
  go_wp2_with fail
  refine Calls.mono (WR.out _) ?_
  rintro e w1 ⟨rfl, hw1⟩
  have hw2 := hw1.symm
  subst hw2
  clear WR hw1
  go_wp2
  go_ret2
  exact ⟨rfl, Below.refl _ _⟩

set_option maxHeartbeats 1000000 in
theorem Open_ok (key b : ByteArray) (hb : 64 ≤ b.size) (hb2 : b.size ≤ 8192) (hk : Hid (key.size + 64 ≤ 140737488355328)) (w : World) (hK : Hid (Kh w)) :
    Calls Tryd.prog 11 #[.string key, .string b] w fun e w' => e = .returned (.tuple #[.string ⟨(openl key.data.toList b.data.toList).toArray⟩, .int .i64 0]) ∧ Below w.heap.size w w' := by
  have WR : Hid (∀ w, Calls Tryd.prog 18 #[.int .i64 (b.size : Int)] w fun e w' => e = .returned (.int .i64 0) ∧ w' = w) := fun w => by
    have h := wrong_any (b.size : Int) w
    rw [wmay_ok _ (by omega) (by omega)] at h
    exact h
  have PT : Hid (∀ w, Kh w → Calls Tryd.prog 19 #[.string key, .string b] w fun e w' => e = .returned (.agg #[.string (wks key 0), .string (wks key 1), .string (wks key 2), .string (wks key 3), .string (bL b), .string (bR b)]) ∧ Below w.heap.size w w') := fun w h => parted_any key b hk hb hb2 w h
  have SZ : Hid ((bL b).size = 32 ∧ (bR b).size ≤ 8192 ∧ (wks key 0).size = 32 ∧ (wks key 1).size = 32 ∧ (wks key 2).size = 32 ∧ (wks key 3).size = 32) := ⟨bL_size b hb, by rw [bR_size b]; omega, wks_size _ _ (by decide), wks_size _ _ (by decide), wks_size _ _ (by decide), wks_size _ _ (by decide)⟩
  rw [← open_eq]
  generalize wks key 0 = k0 at *
  generalize wks key 1 = k1 at *
  generalize wks key 2 = k2 at *
  generalize wks key 3 = k3 at *
  generalize bL b = L at *
  generalize bR b = R at *
  have SH : Hid (∀ (g : Nat) (w : World), HAt w g k0 k1 k2 k3 L R → Kh w → 1 < g → Calls Tryd.prog 24 #[.pointer (some ⟨g, 0, none⟩)] w fun e w' => e = .returned (.tuple #[]) ∧ HAt w' g k0 k1 k2 k3 (sL k1 (sL k3 L R) (sR k2 (sL k3 L R) R)) (sR k0 (sL k1 (sL k3 L R) (sR k2 (sL k3 L R) R)) (sR k2 (sL k3 L R) R)) ∧ Below g w w') := fun g w h1 h2 h3 => hopen_any g k0 k1 k2 k3 L R SZ.out.2.2 SZ.out.1 SZ.out.2.1 w h1 h2 h3
  have Z2 : Hid (ByteArray.size (sL k1 (sL k3 L R) (sR k2 (sL k3 L R) R)) + ByteArray.size (sR k0 (sL k1 (sL k3 L R) (sR k2 (sL k3 L R) R)) (sR k2 (sL k3 L R) R)) ≤ 140737488355328) := by
    rw [sL_size _ _ _ (sL_size _ _ _ SZ.out.1), sR_size, sR_size]
    have := SZ.out.2.1
    show _ ≤ _
    omega
  generalize (sR k0 (sL k1 (sL k3 L R) (sR k2 (sL k3 L R) R)) (sR k2 (sL k3 L R) R)) = R' at *
  generalize (sL k1 (sL k3 L R) (sR k2 (sL k3 L R) R)) = L' at *
  have WH : Hid (∀ (g : Nat) (w : World), HAt w g k0 k1 k2 k3 L' R' → Calls Tryd.prog 21 #[.pointer (some ⟨g, 0, none⟩)] w fun e w' => e = .returned (.string (L' ++ R')) ∧ Below w.heap.size w w') := fun g w h => whole_any g k0 k1 k2 k3 L' R' Z2 w h
  go_enter Tryd.func11, Tryd.ntmps11
  go_wp2_with fail
  refine Calls.mono (WR.out _) ?_
  rintro e w1 ⟨rfl, hw1⟩
  have hw2 := hw1.symm
  subst hw2
  go_wp2_with fail
  refine Calls.mono (PT.out _ hK.out) ?_
  rintro e w2 ⟨rfl, hb2⟩
  have B2 : Hid (Below w.heap.size w w2 ∧ Kh w2) := ⟨hb2, hK.out.later hb2⟩
  clear hb2 PT WR hw1
  go_wp2_with fail
  refine Calls.mono (SH.out w2.heap.size _ (HAt.new _ _ _ _ _ _ _ _) (B2.out.2.alloc _) B2.out.2.1) ?_
  rintro e w3 ⟨rfl, h3, hb3⟩
  have B3 : Hid (HAt w3 w2.heap.size k0 k1 k2 k3 L' R' ∧ Below w.heap.size w w3) := ⟨h3, chain B2.out.1 (((Below.refl _ _).alloc (Nat.le_refl _) _).trans hb3)⟩
  clear h3 hb3 SH
  go_wp2_with fail
  refine Calls.mono (WH.out w2.heap.size _ B3.out.1) ?_
  rintro e w4 ⟨rfl, hb4⟩
  have B4 : Hid (Below w.heap.size w w4) := chain B3.out.2 hb4
  clear hb4 WH
  go_wp2
  go_ret2
  exact ⟨rfl, B4.out⟩

set_option maxHeartbeats 1000000 in
theorem Open_no (key b : ByteArray) (h : Hid (wmay (b.size : Int) ≠ 0)) (w : World) :
    Calls Tryd.prog 11 #[.string key, .string b] w fun e w' => e = .returned (.tuple #[.string ⟨#[]⟩, .int .i64 (wmay (b.size : Int))]) ∧ Below w.heap.size w w' := by
  have WR : Hid (∀ w, Calls Tryd.prog 18 #[.int .i64 (b.size : Int)] w fun e w' => e = .returned (.int .i64 (wmay (b.size : Int))) ∧ w' = w) := fun w => wrong_any (b.size : Int) w
  obtain ⟨e0, he⟩ : ∃ e0, wmay (b.size : Int) = e0 := ⟨_, rfl⟩
  rw [he] at WR h ⊢
  have hne : ¬ e0 = 0 := h.out
  clear he h
  go_enter Tryd.func11, Tryd.ntmps11
  go_wp2_with fail
  refine Calls.mono (WR.out _) ?_
  rintro e w1 ⟨rfl, hw1⟩
  have hw2 := hw1.symm
  subst hw2
  clear WR hw1
  go_wp2
  go_ret2
  exact ⟨rfl, Below.refl _ _⟩

theorem shut_c : ShutC := fun k b w hk _ hK => by
  by_cases h : wmay (b.size : Int) = 0
  · obtain ⟨h1, h2⟩ := wmay_zero _ h
    rw [shV_ok k b (by omega) (by omega)]
    exact Shut_ok k b (by omega) (by omega) hk w hK
  · rw [shV_no k b h]
    exact Shut_no k b h w
theorem open_c : OpenC := fun k b w hk _ hK => by
  by_cases h : wmay (b.size : Int) = 0
  · obtain ⟨h1, h2⟩ := wmay_zero _ h
    rw [opV_ok k b (by omega) (by omega)]
    exact Open_ok k b (by omega) (by omega) hk w hK
  · rw [opV_no k b h]
    exact Open_no k b h w
end Go.Proofs.YtbkefhfbbhdpcaaDoor

/- A text laid into a block: copy into bytes, as far as they go. -/
namespace Go.Proofs.Wd
theorem pln_copied (t : List UInt8) (n : Nat) : (pln t n 0).take 34 ++ t ++ (pln t n 0).drop (34 + t.length) = plainl t n := by
  unfold pln plainl
  generalize hz : List.replicate 32 (0 : UInt8) = Z
  have lz : Z.length = 32 := by rw [← hz, List.length_replicate]
  have l2 : (Z ++ [UInt8.ofNat (t.length / 256), UInt8.ofNat t.length]).length = 34 := by simp [lz]
  have e1 : (Z ++ [UInt8.ofNat (t.length / 256), UInt8.ofNat t.length]).drop 34 = [] := List.drop_of_length_le (by rw [l2]; exact Nat.le_refl _)
  have e2 : (Z ++ [UInt8.ofNat (t.length / 256), UInt8.ofNat t.length]).take 34 = Z ++ [UInt8.ofNat (t.length / 256), UInt8.ofNat t.length] := List.take_of_length_le (by rw [l2]; exact Nat.le_refl _)
  rw [List.take_zero, List.append_nil, List.take_append_of_le_length (by rw [l2]; exact Nat.le_refl _), e2, ← List.drop_drop, List.drop_append_of_le_length (by rw [l2]; exact Nat.le_refl _), e1, List.nil_append, List.drop_replicate, Nat.sub_zero]
end Go.Proofs.Wd
namespace Go.Proofs.YtbkefhfbbhdpcaaDoor
open Go.RowKit Go.Proofs.Fd Go.Proofs.Hs Go.Proofs.Cc Go.Proofs.Wd
set_option maxRecDepth 20000

/-- copy(b[o:], s): the first bytes, as many as fit. -/
theorem wcopy_at (w : World) (b o n cap : Nat) (s : ByteArray) (m : Nat) (hm : Nat.min s.size n = m)
    (hc : ∀ j, j < n → (w.cell? ⟨b, o + j, none⟩).isSome = true) (hf : ∀ j, j < n → w.frozen? ⟨b, o + j, none⟩ = false) :
    (Builtin.copy_ #[30, 9] 3 #[.slice (some ⟨b, o, none⟩) n cap, .string s]).run Tryd.prog w = .ok (.int .i64 (m : Int)) (w.setCells b o ((s.data.toList.take m).map fun x => Value.int .u8 (x.toNat : Int))) := by
  have hmn : m ≤ n := by rw [← hm]; exact Nat.min_le_right _ _
  have hms : m ≤ s.size := by rw [← hm]; exact Nat.min_le_left _ _
  have hl : ((s.data.toList.take m).map fun x => Value.int .u8 (x.toNat : Int)).length = m := by
    rw [List.length_map, List.length_take]
    have : s.data.toList.length = s.size := by simp
    omega
  have hst := run_storeCells_cells (P := Tryd.prog) b o ((s.data.toList.take m).map fun x => Value.int .u8 (x.toNat : Int)) 0 w
    (by rw [hl]; intro j hj; simpa using hc j (by omega)) (by rw [hl]; intro j hj; simpa using hf j (by omega))
    (by intro v hv; obtain ⟨x, _, rfl⟩ := List.mem_map.1 hv; rfl)
  simp [Builtin.copy_, run_underlying Tryd.underlying30, Builtin.lenOf, Builtin.firstCells, hm]
  rw [← List.map_take, hst]
  rfl
theorem BytesAt.wcopied {w : World} {b : Nat} {l : List UInt8} (h : BytesAt w b l) (o : Nat) (xs : List UInt8) (hx : o + xs.length ≤ l.length) :
    BytesAt (w.setCells b o (xs.map fun x => Value.int .u8 (x.toNat : Int))) b (l.take o ++ xs ++ l.drop (o + xs.length)) := fun j hj => by
  have hj' : j < l.length := by rw [List.length_append, List.length_append, List.length_take, List.length_drop] at hj; omega
  obtain ⟨h0, h1⟩ := h j hj'
  refine ⟨?_, by rw [World.frozen?_setCells]; exact h1⟩
  have key := List.getElem?_eq_getElem hj
  generalize (l.take o ++ xs ++ l.drop (o + xs.length))[j] = v at key ⊢
  by_cases hlo : j < o
  · rw [World.cell?_setCells_out b _ o w _ (fun _ _ => .inl hlo), h0]
    rw [List.append_assoc, List.getElem?_append_left (by rw [List.length_take]; omega), List.getElem?_take_of_lt hlo, List.getElem?_eq_getElem hj'] at key
    rw [Option.some.inj key]
  · by_cases hhi : j < o + xs.length
    · have hx2 : j - o < xs.length := by omega
      have := World.cell?_setCells_in b (xs.map fun x => Value.int .u8 (x.toNat : Int)) o w (fun i hi => by
        rw [List.length_map] at hi
        rw [(h (o + i) (by omega)).1]; rfl) (j - o) (by rw [List.length_map]; exact hx2)
      rw [show o + (j - o) = j by omega] at this
      rw [List.append_assoc, List.getElem?_append_right (by rw [List.length_take]; omega), List.length_take, Nat.min_eq_left (by omega), List.getElem?_append_left hx2, List.getElem?_eq_getElem hx2] at key
      rw [this, List.getElem_map, Option.some.inj key]
    · rw [World.cell?_setCells_out b _ o w _ (fun _ _ => .inr (by rw [List.length_map]; show o + xs.length ≤ j; omega)), h0]
      rw [List.getElem?_append_right (by rw [List.length_append, List.length_take]; omega), List.length_append, List.length_take, Nat.min_eq_left (by omega), List.getElem?_drop, show o + xs.length + (j - (o + xs.length)) = j by omega, List.getElem?_eq_getElem hj'] at key
      rw [Option.some.inj key]

/-- What is shut of a text, laid: made, its length set, the text copied. -/
theorem laid_plain (t : ByteArray) (y : Int) (hy : y = (t.size : Int) % 256) (n : Nat) (w : World) (h0 : 64 ≤ n) (h1 : t.size + 34 ≤ n) (h2 : n ≤ 8192) : ∃ A E F : World, (Instr.makeSlice 30 (.int .i64 (n : Int)) (.int .i64 (n : Int))).run Tryd.prog w = .ok (.slice (some ⟨w.heap.size, 0, none⟩) n n) A
        ∧ (∃ v, A.cell? ⟨w.heap.size, 32, none⟩ = some v ∧ A.frozen? ⟨w.heap.size, 32, none⟩ = false) ∧ (∃ v, A.cell? ⟨w.heap.size, 33, none⟩ = some v ∧ A.frozen? ⟨w.heap.size, 33, none⟩ = false)
        ∧ (A.setCell ⟨w.heap.size, 32, none⟩ (.int .u8 ((t.size : Int) / 256))).setCell ⟨w.heap.size, 33, none⟩ (.int .u8 y) = E
        ∧ (Builtin.copy_ #[30, 9] 3 #[.slice (some ⟨w.heap.size, 34, none⟩) (n - 34) (n - 34), .string t]).run Tryd.prog E = .ok (.int .i64 (t.size : Int)) F
        ∧ BytesAt F w.heap.size (plainl t.data.toList n) ∧ Below w.heap.size w F := by
      obtain ⟨A, CA, BA, bA, sA⟩ := make_n n (by omega) w
      have lt : t.data.toList.length = t.size := list_sz t
      have BE := (BA.set 32 (UInt8.ofNat (t.data.toList.length / 256)) ((t.size : Int) / 256) (by rw [UInt8.toNat_ofNat', lt]; omega)).set 33 (UInt8.ofNat t.data.toList.length) y (by rw [UInt8.toNat_ofNat', lt]; omega)
      rw [pln_zero _ n (by omega)] at BE
      have lE : (pln t.data.toList n 0).length = n := pln_len _ _ _ (Nat.zero_le _) (by omega)
      have CP := wcopy_at ((A.setCell ⟨w.heap.size, 32, none⟩ (.int .u8 ((t.size : Int) / 256))).setCell ⟨w.heap.size, 33, none⟩ (.int .u8 y)) w.heap.size 34 (n - 34) (n - 34) t t.size (Nat.min_eq_left (by omega)) (fun j hj => by rw [(BE (34 + j) (by omega)).1]; rfl) (fun j hj => (BE (34 + j) (by omega)).2)
      rw [List.take_of_length_le (by rw [lt]; exact Nat.le_refl _)] at CP
      have BF := BE.wcopied 34 t.data.toList (by omega)
      rw [pln_copied] at BF
      exact ⟨A, _, _, CA, BA.some 32 (by rw [List.length_replicate]; omega), BA.some 33 (by rw [List.length_replicate]; omega), rfl, CP, BF, below_setCells (Nat.le_refl _) _ _ _ ((bA.setCell (p := ⟨w.heap.size, 32, none⟩) (Nat.le_refl _) _).setCell (p := ⟨w.heap.size, 33, none⟩) (Nat.le_refl _) _)⟩
end Go.Proofs.YtbkefhfbbhdpcaaDoor

/- The program's wide layer: texts wrapped and unwrapped: its contracts hold. -/
namespace Go.Proofs.YtbkefhfbbhdpcaaDoor
open Go.RowKit Go.Proofs.Fd Go.Proofs.Hs Go.Proofs.Cc Go.Proofs.Wd
set_option maxRecDepth 20000

set_option maxHeartbeats 1000000 in
theorem Wrap_no (key t : ByteArray) (n : Int) (h : Hid (wmay n ≠ 0)) (w : World) :
    Calls Tryd.prog 14 #[.string key, .string t, .int .i64 n] w fun e w' => e = .returned (.tuple #[.string ⟨#[]⟩, .int .i64 (wmay n)]) ∧ Below w.heap.size w w' := by
  have WR : Hid (∀ w, Calls Tryd.prog 18 #[.int .i64 n] w fun e w' => e = .returned (.int .i64 (wmay n)) ∧ w' = w) := fun w => wrong_any n w
  obtain ⟨e0, he⟩ : ∃ e0, wmay n = e0 := ⟨_, rfl⟩
  rw [he] at WR h ⊢
  have hne : ¬ e0 = 0 := h.out
  clear he h
  go_enter Tryd.func14, Tryd.ntmps14
  go_wp2_with fail
  refine Calls.mono (WR.out _) ?_
  rintro e w1 ⟨rfl, hw1⟩
  have hw2 := hw1.symm
  subst hw2
  clear WR hw1
  go_wp2
  go_ret2
  exact ⟨rfl, Below.refl _ _⟩

set_option maxHeartbeats 1000000 in
theorem Wrap_long (key t : ByteArray) (n : Nat) (h0 : 64 ≤ n) (h1 : n ≤ 8192) (ht : n < t.size + 34) (w : World) :
    Calls Tryd.prog 14 #[.string key, .string t, .int .i64 (n : Int)] w fun e w' => e = .returned (.tuple #[.string ⟨#[]⟩, .int .i64 2]) ∧ Below w.heap.size w w' := by
  have WR : Hid (∀ w, Calls Tryd.prog 18 #[.int .i64 (n : Int)] w fun e w' => e = .returned (.int .i64 0) ∧ w' = w) := fun w => by
    have h := wrong_any (n : Int) w
    rw [wmay_ok _ (by omega) (by omega)] at h
    exact h
  have g1 : (n : Int) - 34 < (t.size : Int) := by omega
  have g2 : IntKind.i64.wrap ((n : Int) - 34) = (n : Int) - 34 := by rw [IntKind.wrap_i64]; omega
  go_enter Tryd.func14, Tryd.ntmps14
  go_wp2_with fail
  refine Calls.mono (WR.out _) ?_
  rintro e w1 ⟨rfl, hw1⟩
  have hw2 := hw1.symm
  subst hw2
  clear WR hw1
  go_wp2
  go_ret2
  exact ⟨rfl, Below.refl _ _⟩

set_option maxHeartbeats 1000000 in
theorem Wrap_ok (key t : ByteArray) (n : Nat) (h0 : 64 ≤ n) (h1 : n ≤ 8192) (ht : t.size + 34 ≤ n) (hk : Hid (key.size + 64 ≤ 140737488355328)) (w : World) (hK : Hid (Kh w)) :
    Calls Tryd.prog 14 #[.string key, .string t, .int .i64 (n : Int)] w fun e w' => e = .returned (.tuple #[.string ⟨(shutl key.data.toList (plainl t.data.toList n)).toArray⟩, .int .i64 0]) ∧ Below w.heap.size w w' := by
  have WR : Hid (∀ w, Calls Tryd.prog 18 #[.int .i64 (n : Int)] w fun e w' => e = .returned (.int .i64 0) ∧ w' = w) := fun w => by
    have h := wrong_any (n : Int) w
    rw [wmay_ok _ (by omega) (by omega)] at h
    exact h
  obtain ⟨P, hP⟩ : ∃ P : ByteArray, P = ⟨(plainl t.data.toList n).toArray⟩ := ⟨_, rfl⟩
  have lp : (plainl t.data.toList n).length = n := plainl_len _ _ (by rw [list_sz]; exact ht)
  obtain ⟨X, hX⟩ : ∃ X : ByteArray, ⟨(shutl key.data.toList (plainl t.data.toList n)).toArray⟩ = X := ⟨_, rfl⟩
  have SH : Hid (∀ w, Kh w → Calls Tryd.prog 9 #[.string key, .string P] w fun e w' => e = .returned (.tuple #[.string X, .int .i64 0]) ∧ Below w.heap.size w w') := fun w h => by
    have sP : P.size = n := by rw [hP, ba_sz, lp]
    have := Shut_ok key P (by omega) (by omega) hk w h
    rw [hP] at this ⊢
    rw [← hX]
    exact this
  rw [hX]
  obtain ⟨A, E, F, CA, ⟨v32, c32, f32⟩, ⟨v33, c33, f33⟩, hE, CP, BF, bF⟩ := laid_plain t ((t.size : Int) % 256) rfl n w h0 ht h1
  have CF : (convert 30 9 (.slice (some ⟨w.heap.size, 0, none⟩) n n)).run Tryd.prog F = .ok (.string P) F := by
    rw [hP]; exact BF.string (cap := n) lp
  have BF1 : Hid (Below w.heap.size w F ∧ Kh F) := ⟨bF, hK.out.later bF⟩
  have g1 : ¬ (n : Int) - 34 < (t.size : Int) := by omega
  have g2 : IntKind.i64.wrap ((n : Int) - 34) = (n : Int) - 34 := by rw [IntKind.wrap_i64]; omega
  have z1 : (32 : Int) < (n : Int) := by omega
  have z2 : (33 : Int) < (n : Int) := by omega
  have z3 : (34 : Int) ≤ (n : Int) := by omega
  have z4 : ¬ n = 34 := by omega
  have z5 : ¬ n ≤ 34 := by omega
  have z6 : IntKind.u8.wrap ((t.size : Int) / 256) = (t.size : Int) / 256 := by rw [IntKind.wrap_u8]; omega
  have z7 : IntKind.u8.wrap (t.size : Int) = (t.size : Int) % 256 := by rw [IntKind.wrap_u8]
  have z8 : (t.size : Int) / 256 % 256 = (t.size : Int) / 256 := by omega
  clear hX hP lp BF bF
  go_enter Tryd.func14, Tryd.ntmps14
  go_wp2_with fail
  refine Calls.mono (WR.out _) ?_
  rintro e w1 ⟨rfl, hw1⟩
  have hw2 := hw1.symm
  subst hw2
  clear WR hw1
  go_wp2_with fail
  refine Calls.mono (SH.out _ BF1.out.2) ?_
  rintro e w2 ⟨rfl, hb2⟩
  have B2 : Hid (Below w.heap.size w w2) := chain BF1.out.1 hb2
  clear hb2 SH CP CA CF c32 f32 c33 f33 hE
  go_wp2
  go_ret2
  exact ⟨rfl, B2.out⟩

theorem wrap_c : WrapC := fun k t n w hk _ hK => by
  by_cases h : wmay n = 0
  · obtain ⟨h1, h2⟩ := wmay_zero _ h
    obtain ⟨m, rfl⟩ : ∃ m : Nat, n = (m : Int) := ⟨n.toNat, by omega⟩
    by_cases ht : t.size + 34 ≤ m
    · rw [wrV_ok k t m (by omega) (by omega) ht]
      exact Wrap_ok k t m (by omega) (by omega) ht hk w hK
    · unfold wrV
      rw [if_pos h, if_pos (by omega)]
      exact Wrap_long k t m (by omega) (by omega) (by omega) w
  · unfold wrV
    rw [if_neg h]
    exact Wrap_no k t n h w

set_option maxHeartbeats 1000000 in
theorem Unwrap_no (key b : ByteArray) (h : Hid (wmay (b.size : Int) ≠ 0)) (w : World) :
    Calls Tryd.prog 16 #[.string key, .string b] w fun e w' => e = .returned (.tuple #[.string ⟨#[]⟩, .int .i64 (wmay (b.size : Int))]) ∧ Below w.heap.size w w' := by
  have OP : Hid (∀ w, Calls Tryd.prog 11 #[.string key, .string b] w fun e w' => e = .returned (.tuple #[.string ⟨#[]⟩, .int .i64 (wmay (b.size : Int))]) ∧ Below w.heap.size w w') := fun w => Open_no key b h w
  obtain ⟨e0, he⟩ : ∃ e0, wmay (b.size : Int) = e0 := ⟨_, rfl⟩
  rw [he] at OP h ⊢
  have hne : ¬ e0 = 0 := h.out
  clear he h
  go_enter Tryd.func16, Tryd.ntmps16
  go_wp2_with fail
  refine Calls.mono (OP.out _) ?_
  rintro e w1 ⟨rfl, hb1⟩
  have B1 : Hid (Below w.heap.size w w1) := hb1
  clear OP hb1
  go_wp2
  go_ret2
  exact ⟨rfl, B1.out⟩

theorem ba_cut2 (x : ByteArray) (a b : Nat) : (x.extract a b).data.toList = (x.data.toList.drop a).take (b - a) := by
  have e : x = ⟨x.data.toList.toArray⟩ := ba_of rfl
  rw [e, ba_cut]
/-- What Unwrap makes of an opened block. -/
theorem text_cases (X : ByteArray) (c d : UInt8) (p : Nat) (hc : X.data.toList.getD 32 0 = c) (hd : X.data.toList.getD 33 0 = d) (hp : 34 + c.toNat * 256 + d.toNat = p) :
    ((X.extract 0 32).data.toList.all (· == 0) = false → textl X.data.toList = none) ∧ (X.size < p → textl X.data.toList = none) ∧ ((X.extract p X.size).data.toList.all (· == 0) = false → p ≤ X.size → textl X.data.toList = none)
    ∧ ((X.extract 0 32).data.toList.all (· == 0) = true → p ≤ X.size → (X.extract p X.size).data.toList.all (· == 0) = true → textl X.data.toList = some (X.extract 34 p).data.toList) := by
  have hl : X.data.toList.length = X.size := list_sz X
  have ht : 34 + told X.data.toList = p := by unfold told; rw [hc, hd]; omega
  have e1 : (X.extract 0 32).data.toList = X.data.toList.take 32 := by rw [ba_cut2]; simp
  have e2 : (X.extract p X.size).data.toList = X.data.toList.drop (34 + told X.data.toList) := by
    rw [ba_cut2, ht, List.take_of_length_le (by rw [List.length_drop, hl]; exact Nat.le_refl _)]
  have e3 : (X.extract 34 p).data.toList = (X.data.toList.drop 34).take (told X.data.toList) := by
    rw [ba_cut2, ← ht, show 34 + told X.data.toList - 34 = told X.data.toList by omega]
  rw [e1, e2, e3]
  unfold textl
  refine ⟨fun h => if_neg fun g => ?_, fun h => if_neg fun g => ?_, fun h _ => if_neg fun g => ?_, fun h1 h2 h3 => if_pos ⟨h1, by omega, h3⟩⟩
  · rw [h] at g; exact absurd g.1 (by decide)
  · have := g.2.1; omega
  · rw [h] at g; exact absurd g.2.2 (by decide)

set_option maxHeartbeats 1000000 in
theorem Unwrap_ok (key b : ByteArray) (hb : 64 ≤ b.size) (hb2 : b.size ≤ 8192) (hk : Hid (key.size + 64 ≤ 140737488355328)) (w : World) (hK : Hid (Kh w)) :
    Calls Tryd.prog 16 #[.string key, .string b] w fun e w' => e = .returned (.tuple (uwV key b)) ∧ Below w.heap.size w w' := by
  obtain ⟨X, hX⟩ : ∃ X : ByteArray, ⟨(openl key.data.toList b.data.toList).toArray⟩ = X := ⟨_, rfl⟩
  have sX : X.size = b.size := by rw [← hX, ba_sz, openl_len _ _ (by rw [list_sz]; omega), list_sz]
  have dX : openl key.data.toList b.data.toList = X.data.toList := by rw [← hX]
  have OP : Hid (∀ w, Kh w → Calls Tryd.prog 11 #[.string key, .string b] w fun e w' => e = .returned (.tuple #[.string X, .int .i64 0]) ∧ Below w.heap.size w w') := fun w h => by
    rw [← hX]; exact Open_ok key b hb hb2 hk w h
  have BL : Hid (∀ (s : ByteArray) (w : World), s.size ≤ 8192 → Calls Tryd.prog 26 #[.string s] w fun e w' => e = .returned (.bool (s.data.toList.all (· == 0))) ∧ w' = w) := fun s w h => blank_any s (by omega) w
  have UW : Hid ((∀ t, textl X.data.toList = some t → uwV key b = #[.string ⟨t.toArray⟩, .int .i64 0]) ∧ (textl X.data.toList = none → uwV key b = #[.string ⟨#[]⟩, .int .i64 90])) := by
    rw [← dX]
    exact ⟨fun t h => uwV_some key b t hb hb2 h, fun h => uwV_none key b hb hb2 h⟩
  clear hX dX
  have l32 : 32 < X.size := by omega
  have l33 : 33 < X.size := by omega
  obtain ⟨c, hc⟩ : ∃ c, X[32] = c := ⟨_, rfl⟩
  obtain ⟨d, hd⟩ : ∃ d, X[33] = d := ⟨_, rfl⟩
  obtain ⟨p, hp⟩ : ∃ p, 34 + c.toNat * 256 + d.toNat = p := ⟨_, rfl⟩
  have TC : Hid (_ ∧ _) := text_cases X c d p (by rw [List.getD_eq_getElem?_getD, List.getElem?_eq_getElem (by simpa using l32), ← hc]; rfl) (by rw [List.getD_eq_getElem?_getD, List.getElem?_eq_getElem (by simpa using l33), ← hd]; rfl) hp
  have z32 : (32 : Int) < (X.size : Int) := by omega
  have z33 : (33 : Int) < (X.size : Int) := by omega
  have pz : 34 + (c.toNat : Int) * 256 + (d.toNat : Int) = (p : Int) := by omega
  have SX : Hid (64 ≤ X.size ∧ X.size ≤ 8192) := by show _ ∧ _; omega
  go_enter Tryd.func16, Tryd.ntmps16
  go_wp2_with fail
  refine Calls.mono (OP.out _ hK.out) ?_
  rintro e w1 ⟨rfl, hb1⟩
  have B1 : Hid (Below w.heap.size w w1) := hb1
  clear OP hb1
  go_wp2_with fail
  go_quiet (fail)
  have B2 : Hid (Below w.heap.size w (w1.drewN nq)) := below_drewN B1.out nq
  clear B1
  have EQ : wrap64 (wrap64 (34 + wrap64 (wrap64 (c.toNat : Int) * 256)) + wrap64 (d.toNat : Int)) = (p : Int) := by
    have := c.toNat_lt
    have := d.toNat_lt
    unfold wrap64
    omega
  go_wp2_with fail
  rw [EQ]
  clear EQ
  have sE : ∀ a e, (X.extract a e).size ≤ 8192 := fun a e => by rw [ByteArray.size_extract]; have := SX.out; omega
  obtain ⟨v1, q1⟩ : ∃ v, (X.extract 0 32).data.toList.all (fun x => x == 0) = v := ⟨_, rfl⟩
  obtain ⟨v2, q2⟩ : ∃ v, (X.extract p X.size).data.toList.all (fun x => x == 0) = v := ⟨_, rfl⟩
  have BA : Hid (∀ w, Calls Tryd.prog 26 #[.string (X.extract 0 32)] w fun e w' => e = .returned (.bool v1) ∧ w' = w) := fun w => by rw [← q1]; exact BL.out _ w (sE _ _)
  have BB : Hid (∀ w, Calls Tryd.prog 26 #[.string (X.extract p X.size)] w fun e w' => e = .returned (.bool v2) ∧ w' = w) := fun w => by rw [← q2]; exact BL.out _ w (sE _ _)
  have TD : Hid ((v1 = false → textl X.data.toList = none) ∧ (X.size < p → textl X.data.toList = none) ∧ (v2 = false → p ≤ X.size → textl X.data.toList = none) ∧ (v1 = true → p ≤ X.size → v2 = true → textl X.data.toList = some (X.extract 34 p).data.toList)) := by
    rw [← q1, ← q2]; exact TC.out
  clear q1 q2 sE BL TC sX
  refine Calls.mono (BA.out _) ?_
  rintro e w2 ⟨rfl, rfl⟩
  have s1 : 34 ≤ p := by omega
  have s2 : (34 : Int) ≤ (p : Int) := by omega
  have s3 : (X.size : Int) ≤ 8192 := by have := SX.out; omega
  clear hc hd pz hp
  cases v1 with
  | false =>
    have E : Hid (uwV key b = _) := UW.out.2 (TD.out.1 rfl)
    go_wp2
    go_ret2
    exact ⟨by rw [E.out]; rfl, B2.out⟩
  | true =>
    by_cases hp : p ≤ X.size
    · have g1 : ¬ (X.size : Int) < (p : Int) := by omega
      have g2 : (p : Int) ≤ (X.size : Int) := by omega
      go_wp2_with fail
      refine Calls.mono (BB.out _) ?_
      rintro e w2 ⟨rfl, rfl⟩
      cases v2 with
      | false =>
        have E : Hid (uwV key b = _) := UW.out.2 (TD.out.2.2.1 rfl hp)
        go_wp2
        go_ret2
        exact ⟨by rw [E.out]; rfl, B2.out⟩
      | true =>
        have E : Hid (uwV key b = #[.string (X.extract 34 p), .int .i64 0]) := UW.out.1 _ (TD.out.2.2.2 (by simp) hp (by simp))
        go_wp2
        go_ret2
        exact ⟨by rw [E.out]; rfl, B2.out⟩
    · have g1 : (X.size : Int) < (p : Int) := by omega
      have E : Hid (uwV key b = _) := UW.out.2 (TD.out.2.1 (by omega))
      go_wp2
      go_ret2
      exact ⟨by rw [E.out]; rfl, B2.out⟩

theorem unwrap_c : UnwrapC := fun k b w hk _ hK => by
  by_cases h : wmay (b.size : Int) = 0
  · obtain ⟨h1, h2⟩ := wmay_zero _ h
    exact Unwrap_ok k b (by omega) (by omega) hk w hK
  · unfold uwV
    rw [if_neg h]
    exact Unwrap_no k b h w
end Go.Proofs.YtbkefhfbbhdpcaaDoor
