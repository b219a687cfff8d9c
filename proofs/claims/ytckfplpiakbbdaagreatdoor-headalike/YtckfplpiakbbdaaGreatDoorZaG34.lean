/- Parts: HP0, HP1. -/
import Derived.Test.YtckfplpiakbbdaaGreatDoorZaG32
import Derived.Test.YtckfplpiakbbdaaGreatDoorZaG30
namespace Go.Proofs.YtckfplpiakbbdaaGreatDoor
open Go.RowKit Go.Proofs.Fd Go.Proofs.Hs Go.Proofs.Cc Go.Proofs.Hd Go.Proofs.Rt
set_option maxRecDepth 20000
def zba (n : Nat) : ByteArray := ⟨(List.replicate n (0 : UInt8)).toArray⟩
theorem zba_size (n : Nat) : (zba n).size = n := by unfold zba; rw [ba_sz, List.length_replicate]
theorem zba_data (n : Nat) : (zba n).data.toList = List.replicate n 0 := rfl
theorem strm_tk (k n : List UInt8) (c : UInt32) (m : Nat) (h : m ≤ 240) : (strm k n c 240).take m = strm k n c m := by
  rw [← strm_of k n c 240 4 (by decide), List.take_take, Nat.min_eq_left h, strm_of k n c m 4 (by omega)]
def hk6 (s : ByteArray) : Value := .agg #[.string s, .string (hdk s lFlow 32), .string (hdk s lMac 32), .string (hdk s lBody 32), .string (bld s), .string (hdk s lTag 16)]
def htn (s t : ByteArray) : ByteArray := ⟨(xorl t.data.toList (hflow s)).toArray⟩
theorem htn_is (s t : ByteArray) (h : t.size ≤ 240) : (⟨(xorl t.data.toList (strm (hdk s lFlow 32).data.toList (zba 12).data.toList 0 t.size)).toArray⟩ : ByteArray) = htn s t := by
  unfold htn hflow
  rw [xorl_short t.data.toList (strm (drv s.data.toList lFlow 32) (List.replicate 12 0) 0 240), list_sz, strm_tk _ _ _ _ h]
  rfl
theorem htn_size (s t : ByteArray) (h : t.size ≤ 240) : (htn s t).size = t.size := by
  unfold htn
  rw [ba_sz, xorl_len _ _ (by rw [list_sz, hflow_len]; exact h), list_sz]
def hmb (s l : ByteArray) : ByteArray := ⟨(hmacf s l.data.toList).toArray⟩
theorem hmb_size (s l : ByteArray) : (hmb s l).size = 16 := by unfold hmb; rw [ba_sz, hmacf_len]
def Six (w : World) (g : Nat) (k0 k1 k2 k3 k4 k5 : ByteArray) : Prop :=
  (∀ o, w.frozen? ⟨g, o, none⟩ = false) ∧ w.cell? ⟨g, 0, none⟩ = some (.string k0) ∧ w.cell? ⟨g, 1, none⟩ = some (.string k1) ∧ w.cell? ⟨g, 2, none⟩ = some (.string k2) ∧ w.cell? ⟨g, 3, none⟩ = some (.string k3) ∧ w.cell? ⟨g, 4, none⟩ = some (.string k4) ∧ w.cell? ⟨g, 5, none⟩ = some (.string k5)
theorem Six.later {w w' : World} {g : Nat} {k0 k1 k2 k3 k4 k5 : ByteArray} (h : Six w g k0 k1 k2 k3 k4 k5) (hb : Below w.heap.size w w') : Six w' g k0 k1 k2 k3 k4 k5 := by
  obtain ⟨f, h0, h1, h2, h3, h4, h5⟩ := h
  exact ⟨fun o => (frozen_kept hb (World.block_lt_of_cell? _ _ h0)).trans (f o), cell_later hb h0, cell_later hb h1, cell_later hb h2, cell_later hb h3, cell_later hb h4, cell_later hb h5⟩
theorem Six.lt {w : World} {g : Nat} {k0 k1 k2 k3 k4 k5 : ByteArray} (h : Six w g k0 k1 k2 k3 k4 k5) : g < w.heap.size := World.block_lt_of_cell? _ _ h.2.1
theorem Six.new (w : World) (t : TypeId) (y0 y1 y2 y3 y4 y5 : ByteArray) : Six (w.alloc (.cells #[.string y0, .string y1, .string y2, .string y3, .string y4, .string y5] t)) w.heap.size y0 y1 y2 y3 y4 y5 :=
  ⟨fun o => by simp [go_sem], by simp [go_sem], by simp [go_sem], by simp [go_sem], by simp [go_sem], by simp [go_sem], by simp [go_sem]⟩
theorem Six.set1 {w : World} {g : Nat} {k0 k1 k2 k3 k4 k5 : ByteArray} (h : Six w g k0 k1 k2 k3 k4 k5) (x : ByteArray) : Six (w.setCell ⟨g, 1, none⟩ (.string x)) g k0 x k2 k3 k4 k5 := by
  obtain ⟨f, h0, h1, h2, h3, h4, h5⟩ := h
  refine ⟨fun o => by simp [go_sem, f], ?_, ?_, ?_, ?_, ?_, ?_⟩ <;> simp [go_sem, h0, h1, h2, h3, h4, h5]
theorem Six.set2 {w : World} {g : Nat} {k0 k1 k2 k3 k4 k5 : ByteArray} (h : Six w g k0 k1 k2 k3 k4 k5) (x : ByteArray) : Six (w.setCell ⟨g, 2, none⟩ (.string x)) g k0 k1 x k3 k4 k5 := by
  obtain ⟨f, h0, h1, h2, h3, h4, h5⟩ := h
  refine ⟨fun o => by simp [go_sem, f], ?_, ?_, ?_, ?_, ?_, ?_⟩ <;> simp [go_sem, h0, h1, h2, h3, h4, h5]
theorem Six.set3 {w : World} {g : Nat} {k0 k1 k2 k3 k4 k5 : ByteArray} (h : Six w g k0 k1 k2 k3 k4 k5) (x : ByteArray) : Six (w.setCell ⟨g, 3, none⟩ (.string x)) g k0 k1 k2 x k4 k5 := by
  obtain ⟨f, h0, h1, h2, h3, h4, h5⟩ := h
  refine ⟨fun o => by simp [go_sem, f], ?_, ?_, ?_, ?_, ?_, ?_⟩ <;> simp [go_sem, h0, h1, h2, h3, h4, h5]
theorem Six.set4 {w : World} {g : Nat} {k0 k1 k2 k3 k4 k5 : ByteArray} (h : Six w g k0 k1 k2 k3 k4 k5) (x : ByteArray) : Six (w.setCell ⟨g, 4, none⟩ (.string x)) g k0 k1 k2 k3 x k5 := by
  obtain ⟨f, h0, h1, h2, h3, h4, h5⟩ := h
  refine ⟨fun o => by simp [go_sem, f], ?_, ?_, ?_, ?_, ?_, ?_⟩ <;> simp [go_sem, h0, h1, h2, h3, h4, h5]
theorem Six.set5 {w : World} {g : Nat} {k0 k1 k2 k3 k4 k5 : ByteArray} (h : Six w g k0 k1 k2 k3 k4 k5) (x : ByteArray) : Six (w.setCell ⟨g, 5, none⟩ (.string x)) g k0 k1 k2 k3 k4 x := by
  obtain ⟨f, h0, h1, h2, h3, h4, h5⟩ := h
  refine ⟨fun o => by simp [go_sem, f], ?_, ?_, ?_, ?_, ?_, ?_⟩ <;> simp [go_sem, h0, h1, h2, h3, h4, h5]
theorem Six.range {w : World} {b : Nat} {x0 x1 x2 x3 x4 x5 : ByteArray} (h : Six w b x0 x1 x2 x3 x4 x5) : w.rangeAt b 0 [.string x0, .string x1, .string x2, .string x3, .string x4, .string x5] := by
  obtain ⟨-, h0, h1, h2, h3, h4, h5⟩ := h
  intro j v hv
  rcases (by have := (List.getElem?_eq_some_iff.1 hv).1; simp at this; omega : j = 0 ∨ j = 1 ∨ j = 2 ∨ j = 3 ∨ j = 4 ∨ j = 5) with rfl | rfl | rfl | rfl | rfl | rfl
  · simp at hv; subst hv; simpa using h0
  · simp at hv; subst hv; simpa using h1
  · simp at hv; subst hv; simpa using h2
  · simp at hv; subst hv; simpa using h3
  · simp at hv; subst hv; simpa using h4
  · simp at hv; subst hv; simpa using h5
theorem Six.whole {w : World} {b : Nat} {x0 x1 x2 x3 x4 x5 : ByteArray} (h : Six w b x0 x1 x2 x3 x4 x5) (y0 y1 y2 y3 y4 y5 : ByteArray) :
    Six ((((((w.setCell ⟨b, 0, none⟩ (.string y0)).setCell ⟨b, 1, none⟩ (.string y1)).setCell ⟨b, 2, none⟩ (.string y2)).setCell ⟨b, 3, none⟩ (.string y3)).setCell ⟨b, 4, none⟩ (.string y4)).setCell ⟨b, 5, none⟩ (.string y5)) b y0 y1 y2 y3 y4 y5 := by
  obtain ⟨f, h0, h1, h2, h3, h4, h5⟩ := h
  refine ⟨fun o => by simp [go_sem, f], ?_, ?_, ?_, ?_, ?_, ?_⟩ <;> simp [go_sem, h0, h1, h2, h3, h4, h5]
theorem below_six {B : Nat} {a w : World} (h : Below B a w) {c : Nat} (hc : B ≤ c) (y0 y1 y2 y3 y4 y5 : Value) :
    Below B a ((((((w.setCell ⟨c, 0, none⟩ y0).setCell ⟨c, 1, none⟩ y1).setCell ⟨c, 2, none⟩ y2).setCell ⟨c, 3, none⟩ y3).setCell ⟨c, 4, none⟩ y4).setCell ⟨c, 5, none⟩ y5) :=
  (((((h.setCell (p := ⟨c, 0, none⟩) hc _).setCell (p := ⟨c, 1, none⟩) hc _).setCell (p := ⟨c, 2, none⟩) hc _).setCell (p := ⟨c, 3, none⟩) hc _).setCell (p := ⟨c, 4, none⟩) hc _).setCell (p := ⟨c, 5, none⟩) hc _
def Five (w : World) (g : Nat) (k0 k1 k2 k3 k4 : ByteArray) : Prop :=
  (∀ o, w.frozen? ⟨g, o, none⟩ = false) ∧ w.cell? ⟨g, 0, none⟩ = some (.string k0) ∧ w.cell? ⟨g, 1, none⟩ = some (.string k1) ∧ w.cell? ⟨g, 2, none⟩ = some (.string k2) ∧ w.cell? ⟨g, 3, none⟩ = some (.string k3) ∧ w.cell? ⟨g, 4, none⟩ = some (.string k4)
theorem Five.later {w w' : World} {g : Nat} {k0 k1 k2 k3 k4 : ByteArray} (h : Five w g k0 k1 k2 k3 k4) (hb : Below w.heap.size w w') : Five w' g k0 k1 k2 k3 k4 := by
  obtain ⟨f, h0, h1, h2, h3, h4⟩ := h
  exact ⟨fun o => (frozen_kept hb (World.block_lt_of_cell? _ _ h0)).trans (f o), cell_later hb h0, cell_later hb h1, cell_later hb h2, cell_later hb h3, cell_later hb h4⟩
theorem Five.lt {w : World} {g : Nat} {k0 k1 k2 k3 k4 : ByteArray} (h : Five w g k0 k1 k2 k3 k4) : g < w.heap.size := World.block_lt_of_cell? _ _ h.2.1
theorem Five.new (w : World) (t : TypeId) (y0 y1 y2 y3 y4 : ByteArray) : Five (w.alloc (.cells #[.string y0, .string y1, .string y2, .string y3, .string y4] t)) w.heap.size y0 y1 y2 y3 y4 :=
  ⟨fun o => by simp [go_sem], by simp [go_sem], by simp [go_sem], by simp [go_sem], by simp [go_sem], by simp [go_sem]⟩
theorem Five.range {w : World} {b : Nat} {x0 x1 x2 x3 x4 : ByteArray} (h : Five w b x0 x1 x2 x3 x4) : w.rangeAt b 0 [.string x0, .string x1, .string x2, .string x3, .string x4] := by
  obtain ⟨-, h0, h1, h2, h3, h4⟩ := h
  intro j v hv
  rcases (by have := (List.getElem?_eq_some_iff.1 hv).1; simp at this; omega : j = 0 ∨ j = 1 ∨ j = 2 ∨ j = 3 ∨ j = 4) with rfl | rfl | rfl | rfl | rfl
  · simp at hv; subst hv; simpa using h0
  · simp at hv; subst hv; simpa using h1
  · simp at hv; subst hv; simpa using h2
  · simp at hv; subst hv; simpa using h3
  · simp at hv; subst hv; simpa using h4
theorem Five.whole {w : World} {b : Nat} {x0 x1 x2 x3 x4 : ByteArray} (h : Five w b x0 x1 x2 x3 x4) (y0 y1 y2 y3 y4 : ByteArray) :
    Five (((((w.setCell ⟨b, 0, none⟩ (.string y0)).setCell ⟨b, 1, none⟩ (.string y1)).setCell ⟨b, 2, none⟩ (.string y2)).setCell ⟨b, 3, none⟩ (.string y3)).setCell ⟨b, 4, none⟩ (.string y4)) b y0 y1 y2 y3 y4 := by
  obtain ⟨f, h0, h1, h2, h3, h4⟩ := h
  refine ⟨fun o => by simp [go_sem, f], ?_, ?_, ?_, ?_, ?_⟩ <;> simp [go_sem, h0, h1, h2, h3, h4]
theorem below_five {B : Nat} {a w : World} (h : Below B a w) {c : Nat} (hc : B ≤ c) (y0 y1 y2 y3 y4 : Value) :
    Below B a (((((w.setCell ⟨c, 0, none⟩ y0).setCell ⟨c, 1, none⟩ y1).setCell ⟨c, 2, none⟩ y2).setCell ⟨c, 3, none⟩ y3).setCell ⟨c, 4, none⟩ y4) :=
  ((((h.setCell (p := ⟨c, 0, none⟩) hc _).setCell (p := ⟨c, 1, none⟩) hc _).setCell (p := ⟨c, 2, none⟩) hc _).setCell (p := ⟨c, 3, none⟩) hc _).setCell (p := ⟨c, 4, none⟩) hc _
theorem wh_all (ps : List ByteArray) : (ps.all fun p => p.size == 32) = Crv.wh ps := rfl
end Go.Proofs.YtckfplpiakbbdaaGreatDoor
namespace Go.Proofs.YtckfplpiakbbdaaGreatDoor
open Go.RowKit Go.Proofs.Fd Go.Proofs.Hs Go.Proofs.Cc Go.Proofs.Hd Go.Proofs.Rt
set_option maxRecDepth 20000
theorem hdk_data (s : ByteArray) (l : List UInt8) (n : Nat) : (hdk s l n).data.toList = drv s.data.toList l n := by unfold hdk; simp
theorem rep_zero (n : Nat) : Lib.repeatL [0] n = List.replicate n 0 := by
  induction n with
  | zero => rfl
  | succ n ih => rw [Lib.repeatL, ih]; rfl
set_option maxHeartbeats 1000000 in
theorem zeros_any (n : Nat) (h2 : 2 ≤ n) (hn : n ≤ 1000) (w : World) :
    Calls Tryz.prog 39 #[.int .i64 (n : Int)] w fun e w' => e = .returned (.string (zba n)) ∧ Below w.heap.size w w' := by
  have RE : Hid (∀ w, Calls Tryz.prog 62 #[.string ⟨#[0]⟩, .int .i64 (n : Int)] w fun e w' => e = .returned (.string (zba n)) ∧ Below w.heap.size w w') := fun w => by
    have h := Any.strings_Repeat_main repLies repMore ⟨#[0]⟩ n w h2 (by omega) (by show 1 * n ≤ _; omega) (by decide)
    have e : (⟨#[0]⟩ : ByteArray).data.toList = [0] := rfl
    rw [e, rep_zero] at h
    exact h
  generalize zba n = Z at *
  clear h2 hn
  go_enter Tryz.func39, Tryz.ntmps39
  go_wp2_with fail
  refine Calls.mono (RE.out _) ?_
  rintro e w1 ⟨rfl, hb1⟩
  have B1 : Hid (Below w.heap.size w w1) := hb1
  clear hb1 RE
  go_wp2
  go_ret
  exact ⟨rfl, B1.out⟩
set_option maxHeartbeats 1000000 in
theorem hderived_any (s : ByteArray) (l : List UInt8) (n : Nat) (hn : n ≤ 255) (hl : l.length ≤ 100) (hs : Hid (s.size + 64 ≤ 140737488355328)) (w : World) (hK : Hid (Kh w)) :
    Calls Tryz.prog 49 #[.agg #[.string s], .string ⟨l.toArray⟩, .int .i64 (n : Int)] w fun e w' => e = .returned (.string (hdk s l n)) ∧ Below w.heap.size w w' := by
  obtain ⟨Lb, hLb⟩ : ∃ L : ByteArray, ⟨l.toArray⟩ = L := ⟨_, rfl⟩
  have DV : Hid (∀ w, Kh w → Calls Tryz.prog 45 #[.string s, .string Lb, .int .i64 (n : Int)] w fun e w' => e = .returned (.tuple #[.string (hdk s l n), .int .i64 0]) ∧ Below w.heap.size w w') := fun w h => by
    have := derive_c s Lb n w hs (by rw [← hLb]; show (⟨l.toArray⟩ : ByteArray).size + 97 ≤ _; rw [ba_sz]; omega) h
    unfold drV at this
    rw [if_neg (by omega)] at this
    rw [← hLb] at this ⊢
    exact this
  rw [hLb]
  generalize hdk s l n = X at *
  clear hLb hn
  go_enter Tryz.func49, Tryz.ntmps49
  go_wp2_with fail
  refine Calls.mono (DV.out _ (hK.out.alloc _)) ?_
  rintro e w1 ⟨rfl, hb1⟩
  have B1 : Hid (Below w.heap.size w w1) := chain ((Below.refl _ _).alloc (Nat.le_refl _) _) hb1
  clear hb1 DV
  go_wp2
  go_ret
  exact ⟨rfl, B1.out⟩
set_option maxHeartbeats 1000000 in
theorem padOf_any (s : ByteArray) (hs : Hid (s.size + 64 ≤ 140737488355328)) (w : World) (hK : Hid (Kh w)) :
    Calls Tryz.prog 53 #[.string s] w fun e w' => e = .returned (.string (hdk s lPad 200)) ∧ Below w.heap.size w w' := by
  have DV : Hid (∀ w, Kh w → Calls Tryz.prog 49 #[.agg #[.string s], .string ⟨#[112, 97, 100]⟩, .int .i64 200] w fun e w' => e = .returned (.string (hdk s lPad 200)) ∧ Below w.heap.size w w') := fun w h => hderived_any s lPad 200 (by decide) (by decide) hs w h
  generalize hdk s lPad 200 = X at *
  go_enter Tryz.func53, Tryz.ntmps53
  go_wp2_with fail
  refine Calls.mono (DV.out _ hK.out) ?_
  rintro e w1 ⟨rfl, hb1⟩
  have B1 : Hid (Below w.heap.size w w1) := hb1
  clear hb1 DV
  go_wp2
  go_ret
  exact ⟨rfl, B1.out⟩
set_option maxHeartbeats 1000000 in
theorem hturned_any (s t : ByteArray) (ht : t.size ≤ 240) (w : World) :
    Calls Tryz.prog 38 #[hk6 s, .string t] w fun e w' => e = .returned (.string (htn s t)) ∧ Below w.heap.size w w' := by
  have ZE : Hid (∀ w, Calls Tryz.prog 39 #[.int .i64 12] w fun e w' => e = .returned (.string (zba 12)) ∧ Below w.heap.size w w') := fun w => zeros_any 12 (by decide) (by decide) w
  have SX : Hid (∀ w, Calls Tryz.prog 61 #[.string (hdk s lFlow 32), .string (zba 12), .int .i64 0, .string t] w fun e w' => e = .returned (.tuple #[.string (htn s t), .int .i64 0]) ∧ Below w.heap.size w w') := fun w => by
    have h := sXor_ok (hdk s lFlow 32) (zba 12) 0 t (hdk_size _ _ _) (zba_size _) (by omega) w
    rw [htn_is s t ht] at h
    exact h
  unfold hk6
  generalize htn s t = Y at *
  generalize hdk s lFlow 32 = k1 at *
  generalize hdk s lMac 32 = k2 at *
  generalize hdk s lBody 32 = k3 at *
  generalize bld s = k4 at *
  generalize hdk s lTag 16 = k5 at *
  generalize zba 12 = Z at *
  clear ht
  go_enter Tryz.func38, Tryz.ntmps38
  go_wp2
  obtain ⟨A, hA⟩ : ∃ A, w.alloc (.cells #[.string s, .string k1, .string k2, .string k3, .string k4, .string k5] 55) = A := ⟨_, rfl⟩
  have I : Hid (Six A w.heap.size s k1 k2 k3 k4 k5 ∧ Below w.heap.size w A) := by
    rw [← hA]
    exact ⟨Six.new _ _ _ _ _ _ _ _, (Below.refl _ _).alloc (Nat.le_refl _) _⟩
  rw [hA]
  clear hA
  have c1 := I.out.1.2.2.1
  have J : Hid (Six A.drew w.heap.size s k1 k2 k3 k4 k5 ∧ Below w.heap.size w A.drew) := ⟨I.out.1, I.out.2.drew⟩
  clear I
  go_region_with (first | (go_at_call 39; refine Calls.mono (ZE.out _) ?_; rintro e w1 ⟨rfl, hb1⟩; have H1 : Hid (Six w1 w.heap.size s k1 k2 k3 k4 k5 ∧ Below w.heap.size w w1) := ⟨J.out.1.later hb1, chain J.out.2 hb1⟩; have c11 := H1.out.1.2.2.1) | (go_at_call 61; refine Calls.mono (SX.out _) ?_; rintro e w2 ⟨rfl, hb2⟩; have B2 : Hid (Below w.heap.size w w2) := chain H1.out.2 hb2))
  all_goals
    go_wp2
    go_ret
    exact ⟨rfl, B2.out⟩
set_option maxHeartbeats 1000000 in
theorem macOf_any (s l : ByteArray) (hl : l.size ≤ 140737488355328) (w : World) (hK : Hid (Kh w)) :
    Calls Tryz.prog 37 #[hk6 s, .string l] w fun e w' => e = .returned (.string (hmb s l)) ∧ Below w.heap.size w w' := by
  obtain ⟨X, hX⟩ : ∃ X : ByteArray, ⟨(hmac (hdk s lMac 32).data.toList l.data.toList).toArray⟩ = X := ⟨_, rfl⟩
  have zX : X.size = 32 := by rw [← hX, ba_sz, hmac_len]
  have eX : Hid (hmb s l = X.extract 0 16) := by
    show _ = _
    have : (X.extract 0 16).data.toList = hmacf s l.data.toList := by
      rw [← hX, ba_cut, List.drop_zero, hdk_data]
      unfold hmacf
      with_reducible rfl
    unfold hmb
    exact (ba_of this).symm
  have TG : Hid (∀ (B : Nat) (w : World), Kh w → w.cell? ⟨B, 0, none⟩ = some (.string l) → Calls Tryz.prog 19 #[.string (hdk s lMac 32), .slice (some ⟨B, 0, none⟩) 1 1] w fun e w' => e = .returned (.string X) ∧ Below w.heap.size w w') := fun B w h h0 => by
    have := tag_c (hdk s lMac 32) (some ⟨B, 0, none⟩) [l] 1 1 w rfl (by show (1 : Nat) * 16 + 1024 ≤ _; decide) (by show (hdk s lMac 32).size ≤ _; rw [hdk_size]; decide) (fun x hx => by simp at hx; subst hx; exact hl) h (strAt1 h0)
    rw [jnd_one, hX] at this
    exact this
  rw [eX.out]
  unfold hk6
  generalize hdk s lFlow 32 = k1 at *
  generalize hdk s lMac 32 = k2 at *
  generalize hdk s lBody 32 = k3 at *
  generalize bld s = k4 at *
  generalize hdk s lTag 16 = k5 at *
  have zXi : (X.size : Int) = 32 := by omega
  clear hl hX eX
  go_enter Tryz.func37, Tryz.ntmps37
  go_wp2_with fail
  refine Calls.mono (TG.out _ _ ((hK.out.alloc _).alloc _) (by simp [go_sem])) ?_
  rintro e w1 ⟨rfl, hb1⟩
  have B1 : Hid (Below w.heap.size w w1) := chain (((Below.refl _ _).alloc (Nat.le_refl _) _).alloc (by simp [go_sem]) _) hb1
  clear hb1 TG
  go_wp2
  go_ret
  exact ⟨rfl, B1.out⟩
set_option maxHeartbeats 1000000 in
theorem hwhole_any (a : Option Addr) (ss : List ByteArray) (n cap : Nat) (hn : Hid (ss.length = n)) (hm : n ≤ 9223372036854775807) (w : World) (hc : Hid (StrAt w a ss)) :
    Calls Tryz.prog 21 #[.slice a n cap] w fun e w' => e = .returned (.bool (Crv.wh ss)) ∧ Below w.heap.size w w' := by
  go_enter Tryz.func21, Tryz.ntmps21
  go_wp2
  go_loopw [7] (fun i wr => ∃ k : Nat, k ≤ n ∧ i = .int .i64 k ∧ Hid (Crv.wh (ss.take k) = true ∧ Below w.heap.size w wr)) (fun i _ => n - (intOf i).toNat)
  case atStart => exact ⟨0, Nat.zero_le _, rfl, rfl, Below.refl _ _⟩
  case round =>
    obtain ⟨k, hk, rfl, I⟩ := hrel
    by_cases hlt : k < n
    · have hk' : k < ss.length := by have := hn.out; omega
      obtain ⟨b, o, rfl, hcell⟩ := StrAt.later hc.out I.out.2 rfl k hk'
      have HT : Hid (ss[k].size = 32 → Crv.wh (ss.take (k + 1)) = true) := fun h => Crv.wh_take hk' I.out.1 h
      have HN : Hid (¬ ss[k].size = 32 → Crv.wh ss = false) := fun h => Crv.wh_not hk' h
      generalize ss[k] = s at *
      by_cases h0 : s.size = 32
      · have hz : ((s.size : Int) != 32) = false := by simp [h0]
        have fin := HT.out h0
        have FIN : Hid (Crv.wh (ss.take (k + 1)) = true) := fin
        clear fin h0
        go_wp2
        go_roundw
        case rel => exact ⟨k + 1, by omega, by go_num, FIN.out, I.out.2⟩
        case measure => simp [intOf]; omega
      · have hz : ((s.size : Int) != 32) = true := by simp; omega
        have FIN : Hid (Crv.wh ss = false) := HN.out h0
        clear h0
        go_wp2
        go_ret
        exact ⟨Crv.ret_bool FIN.out.symm, I.out.2⟩
    · have hkn : k = n := by omega
      subst hkn
      have CA : Hid (Crv.wh ss = true) := by
        have := I.out.1; rw [List.take_of_length_le (by have := hn.out; omega)] at this; exact this
      go_wp2
      go_ret
      exact ⟨Crv.ret_bool CA.out.symm, I.out.2⟩
theorem hwhole1_any (s : ByteArray) (B : Nat) (w : World) (h0 : w.cell? ⟨B, 0, none⟩ = some (.string s)) :
    Calls Tryz.prog 21 #[.slice (some ⟨B, 0, none⟩) 1 1] w fun e w' => e = .returned (.bool (decide (s.size = 32))) ∧ Below w.heap.size w w' := by
  have := hwhole_any (some ⟨B, 0, none⟩) [s] 1 1 rfl (by omega) w (strAt1 h0)
  have e : Crv.wh [s] = decide (s.size = 32) := by simp [Crv.wh]
  rw [e] at this
  exact this
end Go.Proofs.YtckfplpiakbbdaaGreatDoor
