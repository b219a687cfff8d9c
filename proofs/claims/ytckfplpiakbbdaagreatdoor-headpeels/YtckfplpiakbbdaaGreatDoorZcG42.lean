/- Parts: HP0, HR1, HK0, HP1, HP2. -/
import Derived.Test.YtckfplpiakbbdaaGreatDoorZcG41
import Derived.Test.YtckfplpiakbbdaaGreatDoorZcG40
import Derived.Test.YtckfplpiakbbdaaGreatDoorZcG33
namespace Go.Proofs.YtckfplpiakbbdaaGreatDoor
open Go.RowKit Go.Proofs.Fd Go.Proofs.Hs Go.Proofs.Cc Go.Proofs.Hd Go.Proofs.Rt
set_option maxRecDepth 20000
def zba (n : Nat) : ByteArray := ⟨(List.replicate n (0 : UInt8)).toArray⟩
theorem zba_size (n : Nat) : (zba n).size = n := by unfold zba; rw [ba_sz, List.length_replicate]
theorem zba_data (n : Nat) : (zba n).data.toList = List.replicate n 0 := rfl
theorem strm_tk (k n : List UInt8) (c : UInt32) (m : Nat) (h : m ≤ 240) : (strm k n c 240).take m = strm k n c m := by
  rw [← strm_of k n c 240 4 (by decide), List.take_take, Nat.min_eq_left h, strm_of k n c m 4 (by omega)]
def hk6 (s : ByteArray) : Value := .agg #[.string s, .string (hdk s lFlow 32), .string (hdk s lMac 32), .string (hdk s lBody 32), .string (bld s), .string (hdk s lTag 16)]
def htn (s t : ByteArray) : ByteArray := ⟨(xorl t.data.toList (hflow s)).toArray⟩
theorem htn_is (s t : ByteArray) (h : t.size ≤ 240) : (⟨(xorl t.data.toList (strm (hdk s lFlow 32).data.toList (zba 12).data.toList 0 t.size)).toArray⟩ : ByteArray) = htn s t := by
  unfold htn hflow
  rw [xorl_short t.data.toList (strm (drv s.data.toList lFlow 32) (List.replicate 12 0) 0 240), list_sz, strm_tk _ _ _ _ h]
  rfl
theorem htn_size (s t : ByteArray) (h : t.size ≤ 240) : (htn s t).size = t.size := by
  unfold htn
  rw [ba_sz, xorl_len _ _ (by rw [list_sz, hflow_len]; exact h), list_sz]
def hmb (s l : ByteArray) : ByteArray := ⟨(hmacf s l.data.toList).toArray⟩
theorem hmb_size (s l : ByteArray) : (hmb s l).size = 16 := by unfold hmb; rw [ba_sz, hmacf_len]
def Six (w : World) (g : Nat) (k0 k1 k2 k3 k4 k5 : ByteArray) : Prop :=
  (∀ o, w.frozen? ⟨g, o, none⟩ = false) ∧ w.cell? ⟨g, 0, none⟩ = some (.string k0) ∧ w.cell? ⟨g, 1, none⟩ = some (.string k1) ∧ w.cell? ⟨g, 2, none⟩ = some (.string k2) ∧ w.cell? ⟨g, 3, none⟩ = some (.string k3) ∧ w.cell? ⟨g, 4, none⟩ = some (.string k4) ∧ w.cell? ⟨g, 5, none⟩ = some (.string k5)
theorem Six.later {w w' : World} {g : Nat} {k0 k1 k2 k3 k4 k5 : ByteArray} (h : Six w g k0 k1 k2 k3 k4 k5) (hb : Below w.heap.size w w') : Six w' g k0 k1 k2 k3 k4 k5 := by
  obtain ⟨f, h0, h1, h2, h3, h4, h5⟩ := h
  exact ⟨fun o => (frozen_kept hb (World.block_lt_of_cell? _ _ h0)).trans (f o), cell_later hb h0, cell_later hb h1, cell_later hb h2, cell_later hb h3, cell_later hb h4, cell_later hb h5⟩
theorem Six.lt {w : World} {g : Nat} {k0 k1 k2 k3 k4 k5 : ByteArray} (h : Six w g k0 k1 k2 k3 k4 k5) : g < w.heap.size := World.block_lt_of_cell? _ _ h.2.1
theorem Six.new (w : World) (t : TypeId) (y0 y1 y2 y3 y4 y5 : ByteArray) : Six (w.alloc (.cells #[.string y0, .string y1, .string y2, .string y3, .string y4, .string y5] t)) w.heap.size y0 y1 y2 y3 y4 y5 :=
  ⟨fun o => by simp [go_sem], by simp [go_sem], by simp [go_sem], by simp [go_sem], by simp [go_sem], by simp [go_sem], by simp [go_sem]⟩
theorem Six.set1 {w : World} {g : Nat} {k0 k1 k2 k3 k4 k5 : ByteArray} (h : Six w g k0 k1 k2 k3 k4 k5) (x : ByteArray) : Six (w.setCell ⟨g, 1, none⟩ (.string x)) g k0 x k2 k3 k4 k5 := by
  obtain ⟨f, h0, h1, h2, h3, h4, h5⟩ := h
  refine ⟨fun o => by simp [go_sem, f], ?_, ?_, ?_, ?_, ?_, ?_⟩ <;> simp [go_sem, h0, h1, h2, h3, h4, h5]
theorem Six.set2 {w : World} {g : Nat} {k0 k1 k2 k3 k4 k5 : ByteArray} (h : Six w g k0 k1 k2 k3 k4 k5) (x : ByteArray) : Six (w.setCell ⟨g, 2, none⟩ (.string x)) g k0 k1 x k3 k4 k5 := by
  obtain ⟨f, h0, h1, h2, h3, h4, h5⟩ := h
  refine ⟨fun o => by simp [go_sem, f], ?_, ?_, ?_, ?_, ?_, ?_⟩ <;> simp [go_sem, h0, h1, h2, h3, h4, h5]
theorem Six.set3 {w : World} {g : Nat} {k0 k1 k2 k3 k4 k5 : ByteArray} (h : Six w g k0 k1 k2 k3 k4 k5) (x : ByteArray) : Six (w.setCell ⟨g, 3, none⟩ (.string x)) g k0 k1 k2 x k4 k5 := by
  obtain ⟨f, h0, h1, h2, h3, h4, h5⟩ := h
  refine ⟨fun o => by simp [go_sem, f], ?_, ?_, ?_, ?_, ?_, ?_⟩ <;> simp [go_sem, h0, h1, h2, h3, h4, h5]
theorem Six.set4 {w : World} {g : Nat} {k0 k1 k2 k3 k4 k5 : ByteArray} (h : Six w g k0 k1 k2 k3 k4 k5) (x : ByteArray) : Six (w.setCell ⟨g, 4, none⟩ (.string x)) g k0 k1 k2 k3 x k5 := by
  obtain ⟨f, h0, h1, h2, h3, h4, h5⟩ := h
  refine ⟨fun o => by simp [go_sem, f], ?_, ?_, ?_, ?_, ?_, ?_⟩ <;> simp [go_sem, h0, h1, h2, h3, h4, h5]
theorem Six.set5 {w : World} {g : Nat} {k0 k1 k2 k3 k4 k5 : ByteArray} (h : Six w g k0 k1 k2 k3 k4 k5) (x : ByteArray) : Six (w.setCell ⟨g, 5, none⟩ (.string x)) g k0 k1 k2 k3 k4 x := by
  obtain ⟨f, h0, h1, h2, h3, h4, h5⟩ := h
  refine ⟨fun o => by simp [go_sem, f], ?_, ?_, ?_, ?_, ?_, ?_⟩ <;> simp [go_sem, h0, h1, h2, h3, h4, h5]
theorem Six.range {w : World} {b : Nat} {x0 x1 x2 x3 x4 x5 : ByteArray} (h : Six w b x0 x1 x2 x3 x4 x5) : w.rangeAt b 0 [.string x0, .string x1, .string x2, .string x3, .string x4, .string x5] := by
  obtain ⟨-, h0, h1, h2, h3, h4, h5⟩ := h
  intro j v hv
  rcases (by have := (List.getElem?_eq_some_iff.1 hv).1; simp at this; omega : j = 0 ∨ j = 1 ∨ j = 2 ∨ j = 3 ∨ j = 4 ∨ j = 5) with rfl | rfl | rfl | rfl | rfl | rfl
  · simp at hv; subst hv; simpa using h0
  · simp at hv; subst hv; simpa using h1
  · simp at hv; subst hv; simpa using h2
  · simp at hv; subst hv; simpa using h3
  · simp at hv; subst hv; simpa using h4
  · simp at hv; subst hv; simpa using h5
theorem Six.whole {w : World} {b : Nat} {x0 x1 x2 x3 x4 x5 : ByteArray} (h : Six w b x0 x1 x2 x3 x4 x5) (y0 y1 y2 y3 y4 y5 : ByteArray) :
    Six ((((((w.setCell ⟨b, 0, none⟩ (.string y0)).setCell ⟨b, 1, none⟩ (.string y1)).setCell ⟨b, 2, none⟩ (.string y2)).setCell ⟨b, 3, none⟩ (.string y3)).setCell ⟨b, 4, none⟩ (.string y4)).setCell ⟨b, 5, none⟩ (.string y5)) b y0 y1 y2 y3 y4 y5 := by
  obtain ⟨f, h0, h1, h2, h3, h4, h5⟩ := h
  refine ⟨fun o => by simp [go_sem, f], ?_, ?_, ?_, ?_, ?_, ?_⟩ <;> simp [go_sem, h0, h1, h2, h3, h4, h5]
theorem below_six {B : Nat} {a w : World} (h : Below B a w) {c : Nat} (hc : B ≤ c) (y0 y1 y2 y3 y4 y5 : Value) :
    Below B a ((((((w.setCell ⟨c, 0, none⟩ y0).setCell ⟨c, 1, none⟩ y1).setCell ⟨c, 2, none⟩ y2).setCell ⟨c, 3, none⟩ y3).setCell ⟨c, 4, none⟩ y4).setCell ⟨c, 5, none⟩ y5) :=
  (((((h.setCell (p := ⟨c, 0, none⟩) hc _).setCell (p := ⟨c, 1, none⟩) hc _).setCell (p := ⟨c, 2, none⟩) hc _).setCell (p := ⟨c, 3, none⟩) hc _).setCell (p := ⟨c, 4, none⟩) hc _).setCell (p := ⟨c, 5, none⟩) hc _
def Five (w : World) (g : Nat) (k0 k1 k2 k3 k4 : ByteArray) : Prop :=
  (∀ o, w.frozen? ⟨g, o, none⟩ = false) ∧ w.cell? ⟨g, 0, none⟩ = some (.string k0) ∧ w.cell? ⟨g, 1, none⟩ = some (.string k1) ∧ w.cell? ⟨g, 2, none⟩ = some (.string k2) ∧ w.cell? ⟨g, 3, none⟩ = some (.string k3) ∧ w.cell? ⟨g, 4, none⟩ = some (.string k4)
theorem Five.later {w w' : World} {g : Nat} {k0 k1 k2 k3 k4 : ByteArray} (h : Five w g k0 k1 k2 k3 k4) (hb : Below w.heap.size w w') : Five w' g k0 k1 k2 k3 k4 := by
  obtain ⟨f, h0, h1, h2, h3, h4⟩ := h
  exact ⟨fun o => (frozen_kept hb (World.block_lt_of_cell? _ _ h0)).trans (f o), cell_later hb h0, cell_later hb h1, cell_later hb h2, cell_later hb h3, cell_later hb h4⟩
theorem Five.lt {w : World} {g : Nat} {k0 k1 k2 k3 k4 : ByteArray} (h : Five w g k0 k1 k2 k3 k4) : g < w.heap.size := World.block_lt_of_cell? _ _ h.2.1
theorem Five.new (w : World) (t : TypeId) (y0 y1 y2 y3 y4 : ByteArray) : Five (w.alloc (.cells #[.string y0, .string y1, .string y2, .string y3, .string y4] t)) w.heap.size y0 y1 y2 y3 y4 :=
  ⟨fun o => by simp [go_sem], by simp [go_sem], by simp [go_sem], by simp [go_sem], by simp [go_sem], by simp [go_sem]⟩
theorem Five.range {w : World} {b : Nat} {x0 x1 x2 x3 x4 : ByteArray} (h : Five w b x0 x1 x2 x3 x4) : w.rangeAt b 0 [.string x0, .string x1, .string x2, .string x3, .string x4] := by
  obtain ⟨-, h0, h1, h2, h3, h4⟩ := h
  intro j v hv
  rcases (by have := (List.getElem?_eq_some_iff.1 hv).1; simp at this; omega : j = 0 ∨ j = 1 ∨ j = 2 ∨ j = 3 ∨ j = 4) with rfl | rfl | rfl | rfl | rfl
  · simp at hv; subst hv; simpa using h0
  · simp at hv; subst hv; simpa using h1
  · simp at hv; subst hv; simpa using h2
  · simp at hv; subst hv; simpa using h3
  · simp at hv; subst hv; simpa using h4
theorem Five.whole {w : World} {b : Nat} {x0 x1 x2 x3 x4 : ByteArray} (h : Five w b x0 x1 x2 x3 x4) (y0 y1 y2 y3 y4 : ByteArray) :
    Five (((((w.setCell ⟨b, 0, none⟩ (.string y0)).setCell ⟨b, 1, none⟩ (.string y1)).setCell ⟨b, 2, none⟩ (.string y2)).setCell ⟨b, 3, none⟩ (.string y3)).setCell ⟨b, 4, none⟩ (.string y4)) b y0 y1 y2 y3 y4 := by
  obtain ⟨f, h0, h1, h2, h3, h4⟩ := h
  refine ⟨fun o => by simp [go_sem, f], ?_, ?_, ?_, ?_, ?_⟩ <;> simp [go_sem, h0, h1, h2, h3, h4]
theorem below_five {B : Nat} {a w : World} (h : Below B a w) {c : Nat} (hc : B ≤ c) (y0 y1 y2 y3 y4 : Value) :
    Below B a (((((w.setCell ⟨c, 0, none⟩ y0).setCell ⟨c, 1, none⟩ y1).setCell ⟨c, 2, none⟩ y2).setCell ⟨c, 3, none⟩ y3).setCell ⟨c, 4, none⟩ y4) :=
  ((((h.setCell (p := ⟨c, 0, none⟩) hc _).setCell (p := ⟨c, 1, none⟩) hc _).setCell (p := ⟨c, 2, none⟩) hc _).setCell (p := ⟨c, 3, none⟩) hc _).setCell (p := ⟨c, 4, none⟩) hc _
theorem wh_all (ps : List ByteArray) : (ps.all fun p => p.size == 32) = Crv.wh ps := rfl
end Go.Proofs.YtckfplpiakbbdaaGreatDoor
namespace Go.Proofs.YtckfplpiakbbdaaGreatDoor
open Go.RowKit Go.Proofs.Fd Go.Proofs.Hs Go.Proofs.Cc Go.Proofs.Hd Go.Proofs.Rt
set_option maxRecDepth 20000
theorem rhk (s : ByteArray) (l : List UInt8) (n : Nat) (hn : n ≤ 255) (hl : l.length ≤ 100) (hs : Hid (s.size + 64 ≤ 140737488355328)) (w : World) :
    Calls Tryz.prog 23 #[.string s, .string ⟨l.toArray⟩, .int .i64 (n : Int)] w fun e w' => e = .returned (.string (hdk s l n)) ∧ Below w.heap.size w w' := by
  have := rKey_any s ⟨l.toArray⟩ n (by omega) hs (by show (⟨l.toArray⟩ : ByteArray).size + 97 ≤ _; rw [ba_sz]; omega) w
  have e : (⟨l.toArray⟩ : ByteArray).data.toList = l := by simp
  rw [e] at this
  exact this
theorem res_rof (tmps : Array Value) (w : World) (b : Nat) (k0 k1 k2 k3 k4 : ByteArray) (h2 : tmps.getD 2 undef = .pointer (some ⟨b, 0, none⟩)) (l : Five w b k0 k1 k2 k3 k4) :
    (results Tryz.f11 tmps).run Tryz.prog w = .ok (.agg #[.string k0, .string k1, .string k2, .string k3, .string k4]) w := by
  have l1 := run_loadVar_mid (P := Tryz.prog) w b 0 23 [.string k0, .string k1, .string k2, .string k3, .string k4] _ l.range Tryz.underlying23 rfl (by kernel_rfl)
  unfold results
  rw [Tryz.results11]
  have h2' : tmps[2]?.getD undef = .pointer (some ⟨b, 0, none⟩) := by simpa using h2
  simp [h2', l1, asAddr]
set_option maxHeartbeats 1000000 in
theorem rOf_any (s : ByteArray) (hs : Hid (s.size + 64 ≤ 140737488355328)) (w : World) :
    Calls Tryz.prog 11 #[.string s] w fun e w' => e = .returned (kv s) ∧ Below w.heap.size w w' := by
  have D1 : Hid (∀ w, Calls Tryz.prog 23 #[.string s, .string ⟨#[102, 108, 111, 119]⟩, .int .i64 32] w fun e w' => e = .returned (.string (hdk s lFlow 32)) ∧ Below w.heap.size w w') := fun w => rhk s lFlow 32 (by decide) (by decide) hs w
  have D2 : Hid (∀ w, Calls Tryz.prog 23 #[.string s, .string ⟨#[109, 97, 99]⟩, .int .i64 32] w fun e w' => e = .returned (.string (hdk s lMac 32)) ∧ Below w.heap.size w w') := fun w => rhk s lMac 32 (by decide) (by decide) hs w
  have D3 : Hid (∀ w, Calls Tryz.prog 23 #[.string s, .string ⟨#[98, 111, 100, 121]⟩, .int .i64 32] w fun e w' => e = .returned (.string (hdk s lBody 32)) ∧ Below w.heap.size w w') := fun w => rhk s lBody 32 (by decide) (by decide) hs w
  have D4 : Hid (∀ w, Calls Tryz.prog 23 #[.string s, .string ⟨#[98, 108, 105, 110, 100]⟩, .int .i64 32] w fun e w' => e = .returned (.string (bld s)) ∧ Below w.heap.size w w') := fun w => rhk s lBlind 32 (by decide) (by decide) hs w
  have D5 : Hid (∀ w, Calls Tryz.prog 23 #[.string s, .string ⟨#[116, 97, 103]⟩, .int .i64 16] w fun e w' => e = .returned (.string (hdk s lTag 16)) ∧ Below w.heap.size w w') := fun w => rhk s lTag 16 (by decide) (by decide) hs w
  unfold kv
  generalize hdk s lFlow 32 = k0 at *
  generalize hdk s lMac 32 = k1 at *
  generalize hdk s lBody 32 = k2 at *
  generalize bld s = k3 at *
  generalize hdk s lTag 16 = k4 at *
  clear hs
  go_enter Tryz.func11, Tryz.ntmps11
  go_wp2_with fail
  have S0 : Hid (Five (w.alloc (.cells #[.string ⟨#[]⟩, .string ⟨#[]⟩, .string ⟨#[]⟩, .string ⟨#[]⟩, .string ⟨#[]⟩] 23)) w.heap.size ⟨#[]⟩ ⟨#[]⟩ ⟨#[]⟩ ⟨#[]⟩ ⟨#[]⟩ ∧ Below w.heap.size w (w.alloc (.cells #[.string ⟨#[]⟩, .string ⟨#[]⟩, .string ⟨#[]⟩, .string ⟨#[]⟩, .string ⟨#[]⟩] 23))) := ⟨Five.new _ _ _ _ _ _ _, (Below.refl _ _).alloc (Nat.le_refl _) _⟩
  refine Calls.mono (D1.out _) ?_
  rintro e w1 ⟨rfl, hb⟩
  have S1 : Hid (Five w1 w.heap.size ⟨#[]⟩ ⟨#[]⟩ ⟨#[]⟩ ⟨#[]⟩ ⟨#[]⟩ ∧ Below w.heap.size w w1) := ⟨S0.out.1.later hb, chain S0.out.2 hb⟩
  clear hb S0 D1
  go_wp2_with fail
  refine Calls.mono (D2.out _) ?_
  rintro e w2 ⟨rfl, hb⟩
  have S2 : Hid (Five w2 w.heap.size ⟨#[]⟩ ⟨#[]⟩ ⟨#[]⟩ ⟨#[]⟩ ⟨#[]⟩ ∧ Below w.heap.size w w2) := ⟨S1.out.1.later hb, chain S1.out.2 hb⟩
  clear hb S1 D2
  go_wp2_with fail
  refine Calls.mono (D3.out _) ?_
  rintro e w3 ⟨rfl, hb⟩
  have S3 : Hid (Five w3 w.heap.size ⟨#[]⟩ ⟨#[]⟩ ⟨#[]⟩ ⟨#[]⟩ ⟨#[]⟩ ∧ Below w.heap.size w w3) := ⟨S2.out.1.later hb, chain S2.out.2 hb⟩
  clear hb S2 D3
  go_wp2_with fail
  refine Calls.mono (D4.out _) ?_
  rintro e w4 ⟨rfl, hb⟩
  have S4 : Hid (Five w4 w.heap.size ⟨#[]⟩ ⟨#[]⟩ ⟨#[]⟩ ⟨#[]⟩ ⟨#[]⟩ ∧ Below w.heap.size w w4) := ⟨S3.out.1.later hb, chain S3.out.2 hb⟩
  clear hb S3 D4
  go_wp2_with fail
  refine Calls.mono (D5.out _) ?_
  rintro e w5 ⟨rfl, hb⟩
  have S5 : Hid (Five w5 w.heap.size ⟨#[]⟩ ⟨#[]⟩ ⟨#[]⟩ ⟨#[]⟩ ⟨#[]⟩ ∧ Below w.heap.size w w5) := ⟨S4.out.1.later hb, chain S4.out.2 hb⟩
  clear hb S4 D5
  obtain ⟨gz, d0, d1, d2, d3, d4⟩ := S5.out.1
  have e0 := gz 0
  have e1 := gz 1
  have e2 := gz 2
  have e3 := gz 3
  have e4 := gz 4
  have FF : Hid (_ ∧ _) := And.intro (Five.whole S5.out.1 k0 k1 k2 k3 k4) (below_five S5.out.2 (Nat.le_refl w.heap.size) (.string k0) (.string k1) (.string k2) (.string k3) (.string k4))
  clear gz S5
  go_wp2
  refine bodyPost_ret (v := .agg #[.string k0, .string k1, .string k2, .string k3, .string k4]) ?_ rfl ⟨rfl, FF.out.2⟩
  exact res_rof _ _ w.heap.size k0 k1 k2 k3 k4 (by kernel_rfl) FF.out.1
set_option maxHeartbeats 1000000 in
theorem rzeros_any (n : Nat) (hn : n ≤ 1000) (w : World) :
    Calls Tryz.prog 30 #[.int .i64 (n : Int)] w fun e w' => e = .returned (.string (zba n)) ∧ Below w.heap.size w w' := by
  obtain ⟨A, CA, BA, bA, sA⟩ := make_n n (by omega) w
  have CV : (convert 44 9 (.slice (some ⟨w.heap.size, 0, none⟩) n n)).run Tryz.prog A = .ok (.string (zba n)) A := BA.string (by simp)
  have B1 : Hid (Below w.heap.size w A) := bA
  generalize zba n = Z at *
  clear BA bA sA hn
  go_enter Tryz.func30, Tryz.ntmps30
  go_wp2
  go_ret
  exact ⟨rfl, B1.out⟩
theorem make12 (w : World) : (Instr.makeSlice 44 (.int .i64 12) (.int .i64 12)).run Tryz.prog w = .ok (.slice (some ⟨w.heap.size, 0, none⟩) 12 12) (w.alloc (.cells (Array.replicate 12 (.int .u8 0)) 5)) := by kernel_rfl
theorem made12 (w W : World) (h : W = w.alloc (.cells (Array.replicate 12 (.int .u8 0)) 5)) : (convert 44 9 (.slice (some ⟨w.heap.size, 0, none⟩) 12 12)).run Tryz.prog W = .ok (.string (zba 12)) W := by
  subst h
  have hB : BytesAt (w.alloc (.cells (Array.replicate 12 (.int .u8 0)) 5)) w.heap.size (List.replicate 12 0) := fun j hj => by
    have hj' : j < 12 := by simpa using hj
    refine ⟨?_, by simp [go_sem]⟩
    rw [World.cell?_alloc_new, List.getElem_replicate, Array.getElem?_replicate, if_pos hj']
    rfl
  exact hB.string (cap := 12) (n := 12) rfl
def hfl (s : ByteArray) : ByteArray := ⟨(hflow s).toArray⟩
theorem hfl_size (s : ByteArray) : (hfl s).size = 240 := by unfold hfl; rw [ba_sz, hflow_len]
set_option maxHeartbeats 1000000 in
theorem rflow_any (s : ByteArray) (w : World) :
    Calls Tryz.prog 32 #[kv s] w fun e w' => e = .returned (.string (hfl s)) ∧ Below w.heap.size w w' := by
  have ST : Hid (∀ w, Calls Tryz.prog 58 #[.string (hdk s lFlow 32), .string (zba 12), .int .i64 0, .int .i64 240] w fun e w' => e = .returned (.string (hfl s)) ∧ Below w.heap.size w w') := fun w => by
    have h := rStream_any (hdk s lFlow 32) (zba 12) 0 240 (hdk_size _ _ _) (zba_size _) (by decide) w
    have e : (⟨(strm (hdk s lFlow 32).data.toList (zba 12).data.toList 0 240).toArray⟩ : ByteArray) = hfl s := rfl
    rw [e] at h
    exact h
  unfold kv
  generalize hfl s = F at *
  generalize hdk s lFlow 32 = k0 at *
  generalize hdk s lMac 32 = k1 at *
  generalize hdk s lBody 32 = k2 at *
  generalize bld s = k3 at *
  generalize hdk s lTag 16 = k4 at *
  have MK := make12
  go_enter Tryz.func32, Tryz.ntmps32
  go_wp2_with fail
  obtain ⟨A, hA⟩ : ∃ A, w.alloc (.cells #[.string k0, .string k1, .string k2, .string k3, .string k4] 23) = A := ⟨_, rfl⟩
  have I : Hid (Five A w.heap.size k0 k1 k2 k3 k4 ∧ Below w.heap.size w A) := by
    rw [← hA]
    exact ⟨Five.new _ _ _ _ _ _ _, (Below.refl _ _).alloc (Nat.le_refl _) _⟩
  have c0 := I.out.1.2.1
  have cl := I.out.1.lt
  have c0' : (A.alloc (.cells (Array.replicate 12 (.int .u8 0)) 5)).cell? ⟨w.heap.size, 0, none⟩ = some (.string k0) := cell_later ((Below.refl _ _).alloc (Nat.le_refl _) _) c0
  have M2 : (convert 44 9 (.slice (some ⟨A.heap.size, 0, none⟩) 12 12)).run Tryz.prog ((A.alloc (.cells (Array.replicate 12 (.int .u8 0)) 5)).drew) = .ok (.string (zba 12)) ((A.alloc (.cells (Array.replicate 12 (.int .u8 0)) 5)).drew) := made12 A.drew _ rfl
  rw [hA]
  clear hA
  generalize zba 12 = Z at *
  go_region_with (first | (go_at_call 58; refine Calls.mono (ST.out _) ?_; rintro e w2 ⟨rfl, hb2⟩; have B2 : Hid (Below w.heap.size w w2) := chain (I.out.2.alloc I.out.2.size _).drew hb2))
  all_goals
    go_wp2
    go_ret
    exact ⟨rfl, B2.out⟩
set_option maxHeartbeats 1000000 in
theorem rmac_any (s l : ByteArray) (hl : l.size + 64 ≤ 140737488355328) (w : World) :
    Calls Tryz.prog 34 #[kv s, .string l] w fun e w' => e = .returned (.string (hmb s l)) ∧ Below w.heap.size w w' := by
  obtain ⟨X, hX⟩ : ∃ X : ByteArray, ⟨(hmac (hdk s lMac 32).data.toList l.data.toList).toArray⟩ = X := ⟨_, rfl⟩
  have zX : X.size = 32 := by rw [← hX, ba_sz, hmac_len]
  have eX : Hid (hmb s l = X.extract 0 16) := by
    show _ = _
    have hd : (hdk s lMac 32).data.toList = drv s.data.toList lMac 32 := by unfold hdk; simp
    have : (X.extract 0 16).data.toList = hmacf s l.data.toList := by
      rw [← hX, ba_cut, List.drop_zero, hd]
      unfold hmacf
      with_reducible rfl
    unfold hmb
    exact (ba_of this).symm
  have TG : Hid (∀ (w : World), Calls Tryz.prog 59 #[.string (hdk s lMac 32), .string l] w fun e w' => e = .returned (.string X) ∧ Below w.heap.size w w') := fun w => by
    rw [← hX]; exact rTag_any (hdk s lMac 32) l (by show _ ≤ _; rw [hdk_size]; decide) hl w
  rw [eX.out]
  unfold kv
  generalize hdk s lFlow 32 = k1 at *
  generalize hdk s lMac 32 = k2 at *
  generalize hdk s lBody 32 = k3 at *
  generalize bld s = k4 at *
  generalize hdk s lTag 16 = k5 at *
  have zXi : (X.size : Int) = 32 := by omega
  clear hl hX eX
  go_enter Tryz.func34, Tryz.ntmps34
  go_wp2_with fail
  refine Calls.mono (TG.out _) ?_
  rintro e w1 ⟨rfl, hb1⟩
  have B1 : Hid (Below w.heap.size w w1) := chain ((Below.refl _ _).alloc (Nat.le_refl _) _) hb1
  clear hb1 TG
  go_wp2
  go_ret
  exact ⟨rfl, B1.out⟩
end Go.Proofs.YtckfplpiakbbdaaGreatDoor
namespace Go.Proofs.YtckfplpiakbbdaaGreatDoor
open Go.RowKit Go.Proofs.Fd
set_option maxRecDepth 20000
theorem exec_neq_keys (ρ : Operand → Value) (oi : Oper) (x y : Operand) (k0 k1 k2 k3 k4 : ByteArray) (hop : oi.op = .binOp .neq 23 x y 23)
    (hx : ρ x = .agg #[.string k0, .string k1, .string k2, .string k3, .string k4]) (hy : ρ y = .agg #[.string k0, .string k1, .string k2, .string k3, .string k4]) (w : World) :
    (execOp ρ oi).run Tryz.prog w = .ok (.value (.bool false)) w := by
  have Ik0 : (k0.toList == k0.toList) = true := by simp
  have Ik1 : (k1.toList == k1.toList) = true := by simp
  have Ik2 : (k2.toList == k2.toList) = true := by simp
  have Ik3 : (k3.toList == k3.toList) = true := by simp
  have Ik4 : (k4.toList == k4.toList) = true := by simp
  unfold execOp
  rw [hop]
  simp only [hx, hy]
  go_simp
theorem exec_eq_keys (ρ : Operand → Value) (oi : Oper) (x y : Operand) (k0 k1 k2 k3 k4 : ByteArray) (hop : oi.op = .binOp .eql 23 x y 23)
    (hx : ρ x = .agg #[.string k0, .string k1, .string k2, .string k3, .string k4]) (hy : ρ y = .agg #[.string k0, .string k1, .string k2, .string k3, .string k4]) (w : World) :
    (execOp ρ oi).run Tryz.prog w = .ok (.value (.bool true)) w := by
  have Ik0 : (k0.toList == k0.toList) = true := by simp
  have Ik1 : (k1.toList == k1.toList) = true := by simp
  have Ik2 : (k2.toList == k2.toList) = true := by simp
  have Ik3 : (k3.toList == k3.toList) = true := by simp
  have Ik4 : (k4.toList == k4.toList) = true := by simp
  unfold execOp
  rw [hop]
  simp only [hx, hy]
  go_simp
theorem exec_neq_hops (ρ : Operand → Value) (oi : Oper) (x y : Operand) (k n u d : Int) (id : ByteArray) (hop : oi.op = .binOp .neq 37 x y 37)
    (hx : ρ x = .agg #[.int .i64 k, .int .i64 n, .int .i64 u, .int .i64 d, .string id]) (hy : ρ y = .agg #[.int .i64 k, .int .i64 n, .int .i64 u, .int .i64 d, .string id]) (w : World) :
    (execOp ρ oi).run Tryz.prog w = .ok (.value (.bool false)) w := by
  have Ik0 : (id.toList == id.toList) = true := by simp
  unfold execOp
  rw [hop]
  simp only [hx, hy]
  go_simp
end Go.Proofs.YtckfplpiakbbdaaGreatDoor
namespace Go.Proofs.YtckfplpiakbbdaaGreatDoor
open Go.RowKit Go.Proofs.Fd Go.Proofs.Hs Go.Proofs.Cc Go.Proofs.Hd Go.Proofs.Rt
set_option maxRecDepth 20000
theorem hdk_data (s : ByteArray) (l : List UInt8) (n : Nat) : (hdk s l n).data.toList = drv s.data.toList l n := by unfold hdk; simp
theorem rep_zero (n : Nat) : Lib.repeatL [0] n = List.replicate n 0 := by
  induction n with
  | zero => rfl
  | succ n ih => rw [Lib.repeatL, ih]; rfl
set_option maxHeartbeats 1000000 in
theorem zeros_any (n : Nat) (h2 : 2 ≤ n) (hn : n ≤ 1000) (w : World) :
    Calls Tryz.prog 39 #[.int .i64 (n : Int)] w fun e w' => e = .returned (.string (zba n)) ∧ Below w.heap.size w w' := by
  have RE : Hid (∀ w, Calls Tryz.prog 62 #[.string ⟨#[0]⟩, .int .i64 (n : Int)] w fun e w' => e = .returned (.string (zba n)) ∧ Below w.heap.size w w') := fun w => by
    have h := Any.strings_Repeat_main repLies repMore ⟨#[0]⟩ n w h2 (by omega) (by show 1 * n ≤ _; omega) (by decide)
    have e : (⟨#[0]⟩ : ByteArray).data.toList = [0] := rfl
    rw [e, rep_zero] at h
    exact h
  generalize zba n = Z at *
  clear h2 hn
  go_enter Tryz.func39, Tryz.ntmps39
  go_wp2_with fail
  refine Calls.mono (RE.out _) ?_
  rintro e w1 ⟨rfl, hb1⟩
  have B1 : Hid (Below w.heap.size w w1) := hb1
  clear hb1 RE
  go_wp2
  go_ret
  exact ⟨rfl, B1.out⟩
set_option maxHeartbeats 1000000 in
theorem hderived_any (s : ByteArray) (l : List UInt8) (n : Nat) (hn : n ≤ 255) (hl : l.length ≤ 100) (hs : Hid (s.size + 64 ≤ 140737488355328)) (w : World) (hK : Hid (Kh w)) :
    Calls Tryz.prog 49 #[.agg #[.string s], .string ⟨l.toArray⟩, .int .i64 (n : Int)] w fun e w' => e = .returned (.string (hdk s l n)) ∧ Below w.heap.size w w' := by
  obtain ⟨Lb, hLb⟩ : ∃ L : ByteArray, ⟨l.toArray⟩ = L := ⟨_, rfl⟩
  have DV : Hid (∀ w, Kh w → Calls Tryz.prog 45 #[.string s, .string Lb, .int .i64 (n : Int)] w fun e w' => e = .returned (.tuple #[.string (hdk s l n), .int .i64 0]) ∧ Below w.heap.size w w') := fun w h => by
    have := derive_c s Lb n w hs (by rw [← hLb]; show (⟨l.toArray⟩ : ByteArray).size + 97 ≤ _; rw [ba_sz]; omega) h
    unfold drV at this
    rw [if_neg (by omega)] at this
    rw [← hLb] at this ⊢
    exact this
  rw [hLb]
  generalize hdk s l n = X at *
  clear hLb hn
  go_enter Tryz.func49, Tryz.ntmps49
  go_wp2_with fail
  refine Calls.mono (DV.out _ (hK.out.alloc _)) ?_
  rintro e w1 ⟨rfl, hb1⟩
  have B1 : Hid (Below w.heap.size w w1) := chain ((Below.refl _ _).alloc (Nat.le_refl _) _) hb1
  clear hb1 DV
  go_wp2
  go_ret
  exact ⟨rfl, B1.out⟩
set_option maxHeartbeats 1000000 in
theorem padOf_any (s : ByteArray) (hs : Hid (s.size + 64 ≤ 140737488355328)) (w : World) (hK : Hid (Kh w)) :
    Calls Tryz.prog 53 #[.string s] w fun e w' => e = .returned (.string (hdk s lPad 200)) ∧ Below w.heap.size w w' := by
  have DV : Hid (∀ w, Kh w → Calls Tryz.prog 49 #[.agg #[.string s], .string ⟨#[112, 97, 100]⟩, .int .i64 200] w fun e w' => e = .returned (.string (hdk s lPad 200)) ∧ Below w.heap.size w w') := fun w h => hderived_any s lPad 200 (by decide) (by decide) hs w h
  generalize hdk s lPad 200 = X at *
  go_enter Tryz.func53, Tryz.ntmps53
  go_wp2_with fail
  refine Calls.mono (DV.out _ hK.out) ?_
  rintro e w1 ⟨rfl, hb1⟩
  have B1 : Hid (Below w.heap.size w w1) := hb1
  clear hb1 DV
  go_wp2
  go_ret
  exact ⟨rfl, B1.out⟩
set_option maxHeartbeats 1000000 in
theorem hturned_any (s t : ByteArray) (ht : t.size ≤ 240) (w : World) :
    Calls Tryz.prog 38 #[hk6 s, .string t] w fun e w' => e = .returned (.string (htn s t)) ∧ Below w.heap.size w w' := by
  have ZE : Hid (∀ w, Calls Tryz.prog 39 #[.int .i64 12] w fun e w' => e = .returned (.string (zba 12)) ∧ Below w.heap.size w w') := fun w => zeros_any 12 (by decide) (by decide) w
  have SX : Hid (∀ w, Calls Tryz.prog 61 #[.string (hdk s lFlow 32), .string (zba 12), .int .i64 0, .string t] w fun e w' => e = .returned (.tuple #[.string (htn s t), .int .i64 0]) ∧ Below w.heap.size w w') := fun w => by
    have h := sXor_ok (hdk s lFlow 32) (zba 12) 0 t (hdk_size _ _ _) (zba_size _) (by omega) w
    rw [htn_is s t ht] at h
    exact h
  unfold hk6
  generalize htn s t = Y at *
  generalize hdk s lFlow 32 = k1 at *
  generalize hdk s lMac 32 = k2 at *
  generalize hdk s lBody 32 = k3 at *
  generalize bld s = k4 at *
  generalize hdk s lTag 16 = k5 at *
  generalize zba 12 = Z at *
  clear ht
  go_enter Tryz.func38, Tryz.ntmps38
  go_wp2
  obtain ⟨A, hA⟩ : ∃ A, w.alloc (.cells #[.string s, .string k1, .string k2, .string k3, .string k4, .string k5] 55) = A := ⟨_, rfl⟩
  have I : Hid (Six A w.heap.size s k1 k2 k3 k4 k5 ∧ Below w.heap.size w A) := by
    rw [← hA]
    exact ⟨Six.new _ _ _ _ _ _ _ _, (Below.refl _ _).alloc (Nat.le_refl _) _⟩
  rw [hA]
  clear hA
  have c1 := I.out.1.2.2.1
  have J : Hid (Six A.drew w.heap.size s k1 k2 k3 k4 k5 ∧ Below w.heap.size w A.drew) := ⟨I.out.1, I.out.2.drew⟩
  clear I
  go_region_with (first | (go_at_call 39; refine Calls.mono (ZE.out _) ?_; rintro e w1 ⟨rfl, hb1⟩; have H1 : Hid (Six w1 w.heap.size s k1 k2 k3 k4 k5 ∧ Below w.heap.size w w1) := ⟨J.out.1.later hb1, chain J.out.2 hb1⟩; have c11 := H1.out.1.2.2.1) | (go_at_call 61; refine Calls.mono (SX.out _) ?_; rintro e w2 ⟨rfl, hb2⟩; have B2 : Hid (Below w.heap.size w w2) := chain H1.out.2 hb2))
  all_goals
    go_wp2
    go_ret
    exact ⟨rfl, B2.out⟩
set_option maxHeartbeats 1000000 in
theorem macOf_any (s l : ByteArray) (hl : l.size ≤ 140737488355328) (w : World) (hK : Hid (Kh w)) :
    Calls Tryz.prog 37 #[hk6 s, .string l] w fun e w' => e = .returned (.string (hmb s l)) ∧ Below w.heap.size w w' := by
  obtain ⟨X, hX⟩ : ∃ X : ByteArray, ⟨(hmac (hdk s lMac 32).data.toList l.data.toList).toArray⟩ = X := ⟨_, rfl⟩
  have zX : X.size = 32 := by rw [← hX, ba_sz, hmac_len]
  have eX : Hid (hmb s l = X.extract 0 16) := by
    show _ = _
    have : (X.extract 0 16).data.toList = hmacf s l.data.toList := by
      rw [← hX, ba_cut, List.drop_zero, hdk_data]
      unfold hmacf
      with_reducible rfl
    unfold hmb
    exact (ba_of this).symm
  have TG : Hid (∀ (B : Nat) (w : World), Kh w → w.cell? ⟨B, 0, none⟩ = some (.string l) → Calls Tryz.prog 19 #[.string (hdk s lMac 32), .slice (some ⟨B, 0, none⟩) 1 1] w fun e w' => e = .returned (.string X) ∧ Below w.heap.size w w') := fun B w h h0 => by
    have := tag_c (hdk s lMac 32) (some ⟨B, 0, none⟩) [l] 1 1 w rfl (by show (1 : Nat) * 16 + 1024 ≤ _; decide) (by show (hdk s lMac 32).size ≤ _; rw [hdk_size]; decide) (fun x hx => by simp at hx; subst hx; exact hl) h (strAt1 h0)
    rw [jnd_one, hX] at this
    exact this
  rw [eX.out]
  unfold hk6
  generalize hdk s lFlow 32 = k1 at *
  generalize hdk s lMac 32 = k2 at *
  generalize hdk s lBody 32 = k3 at *
  generalize bld s = k4 at *
  generalize hdk s lTag 16 = k5 at *
  have zXi : (X.size : Int) = 32 := by omega
  clear hl hX eX
  go_enter Tryz.func37, Tryz.ntmps37
  go_wp2_with fail
  refine Calls.mono (TG.out _ _ ((hK.out.alloc _).alloc _) (by simp [go_sem])) ?_
  rintro e w1 ⟨rfl, hb1⟩
  have B1 : Hid (Below w.heap.size w w1) := chain (((Below.refl _ _).alloc (Nat.le_refl _) _).alloc (by simp [go_sem]) _) hb1
  clear hb1 TG
  go_wp2
  go_ret
  exact ⟨rfl, B1.out⟩
set_option maxHeartbeats 1000000 in
theorem hwhole_any (a : Option Addr) (ss : List ByteArray) (n cap : Nat) (hn : Hid (ss.length = n)) (hm : n ≤ 9223372036854775807) (w : World) (hc : Hid (StrAt w a ss)) :
    Calls Tryz.prog 21 #[.slice a n cap] w fun e w' => e = .returned (.bool (Crv.wh ss)) ∧ Below w.heap.size w w' := by
  go_enter Tryz.func21, Tryz.ntmps21
  go_wp2
  go_loopw [7] (fun i wr => ∃ k : Nat, k ≤ n ∧ i = .int .i64 k ∧ Hid (Crv.wh (ss.take k) = true ∧ Below w.heap.size w wr)) (fun i _ => n - (intOf i).toNat)
  case atStart => exact ⟨0, Nat.zero_le _, rfl, rfl, Below.refl _ _⟩
  case round =>
    obtain ⟨k, hk, rfl, I⟩ := hrel
    by_cases hlt : k < n
    · have hk' : k < ss.length := by have := hn.out; omega
      obtain ⟨b, o, rfl, hcell⟩ := StrAt.later hc.out I.out.2 rfl k hk'
      have HT : Hid (ss[k].size = 32 → Crv.wh (ss.take (k + 1)) = true) := fun h => Crv.wh_take hk' I.out.1 h
      have HN : Hid (¬ ss[k].size = 32 → Crv.wh ss = false) := fun h => Crv.wh_not hk' h
      generalize ss[k] = s at *
      by_cases h0 : s.size = 32
      · have hz : ((s.size : Int) != 32) = false := by simp [h0]
        have fin := HT.out h0
        have FIN : Hid (Crv.wh (ss.take (k + 1)) = true) := fin
        clear fin h0
        go_wp2
        go_roundw
        case rel => exact ⟨k + 1, by omega, by go_num, FIN.out, I.out.2⟩
        case measure => simp [intOf]; omega
      · have hz : ((s.size : Int) != 32) = true := by simp; omega
        have FIN : Hid (Crv.wh ss = false) := HN.out h0
        clear h0
        go_wp2
        go_ret
        exact ⟨Crv.ret_bool FIN.out.symm, I.out.2⟩
    · have hkn : k = n := by omega
      subst hkn
      have CA : Hid (Crv.wh ss = true) := by
        have := I.out.1; rw [List.take_of_length_le (by have := hn.out; omega)] at this; exact this
      go_wp2
      go_ret
      exact ⟨Crv.ret_bool CA.out.symm, I.out.2⟩
theorem hwhole1_any (s : ByteArray) (B : Nat) (w : World) (h0 : w.cell? ⟨B, 0, none⟩ = some (.string s)) :
    Calls Tryz.prog 21 #[.slice (some ⟨B, 0, none⟩) 1 1] w fun e w' => e = .returned (.bool (decide (s.size = 32))) ∧ Below w.heap.size w w' := by
  have := hwhole_any (some ⟨B, 0, none⟩) [s] 1 1 rfl (by omega) w (strAt1 h0)
  have e : Crv.wh [s] = decide (s.size = 32) := by simp [Crv.wh]
  rw [e] at this
  exact this
end Go.Proofs.YtckfplpiakbbdaaGreatDoor
namespace Go.Proofs.YtckfplpiakbbdaaGreatDoor
open Go.RowKit Go.Proofs.Fd Go.Proofs.Hs Go.Proofs.Cc Go.Proofs.Hd Go.Proofs.Rt
set_option maxRecDepth 20000
theorem Six.other {w : World} {g b o : Nat} {v : Value} {k0 k1 k2 k3 k4 k5 : ByteArray} (h : Six w g k0 k1 k2 k3 k4 k5) (hne : b ≠ g) : Six (w.setCell ⟨b, o, none⟩ v) g k0 k1 k2 k3 k4 k5 := by
  obtain ⟨f, h0, h1, h2, h3, h4, h5⟩ := h
  have e : ∀ j, (w.setCell ⟨b, o, none⟩ v).cell? ⟨g, j, none⟩ = w.cell? ⟨g, j, none⟩ := fun j => by simp [go_sem]
  have e2 : ∀ j, (w.setCell ⟨b, o, none⟩ v).frozen? ⟨g, j, none⟩ = w.frozen? ⟨g, j, none⟩ := fun j => by simp [go_sem]
  exact ⟨fun j => by rw [e2, f], by rw [e, h0], by rw [e, h1], by rw [e, h2], by rw [e, h3], by rw [e, h4], by rw [e, h5]⟩
theorem field_keys (s k1 k2 k3 k4 k5 : ByteArray) (w : World) : (Instr.field 55 (.agg #[.string s, .string k1, .string k2, .string k3, .string k4, .string k5]) 1).run Tryz.prog w = .ok (.agg #[.string k1, .string k2, .string k3, .string k4, .string k5]) w := by kernel_rfl
theorem res_hk (tmps : Array Value) (w : World) (b : Nat) (x : Array Value) (h0 : tmps.getD 2 undef = .pointer (some ⟨b, 0, none⟩))
    (l1 : (loadVar 55 ⟨b, 0, none⟩).run Tryz.prog w = .ok (.agg x) w) :
    (results Tryz.f22 tmps).run Tryz.prog w = .ok (.agg x) w := by
  unfold results
  rw [Tryz.results22]
  have h0' : tmps[2]?.getD undef = .pointer (some ⟨b, 0, none⟩) := by simpa using h0
  simp [h0', l1, asAddr]
set_option maxHeartbeats 1000000 in
theorem keysOf_any (s : ByteArray) (hs : Hid (s.size + 64 ≤ 140737488355328)) (w : World) (hK : Hid (Kh w)) :
    Calls Tryz.prog 22 #[.string s] w fun e w' => e = .returned (hk6 s) ∧ Below w.heap.size w w' := by
  have D1 : Hid (∀ w, Kh w → Calls Tryz.prog 49 #[.agg #[.string s], .string ⟨#[102, 108, 111, 119]⟩, .int .i64 32] w fun e w' => e = .returned (.string (hdk s lFlow 32)) ∧ Below w.heap.size w w') := fun w h => hderived_any s lFlow 32 (by decide) (by decide) hs w h
  have D2 : Hid (∀ w, Kh w → Calls Tryz.prog 49 #[.agg #[.string s], .string ⟨#[109, 97, 99]⟩, .int .i64 32] w fun e w' => e = .returned (.string (hdk s lMac 32)) ∧ Below w.heap.size w w') := fun w h => hderived_any s lMac 32 (by decide) (by decide) hs w h
  have D3 : Hid (∀ w, Kh w → Calls Tryz.prog 49 #[.agg #[.string s], .string ⟨#[98, 111, 100, 121]⟩, .int .i64 32] w fun e w' => e = .returned (.string (hdk s lBody 32)) ∧ Below w.heap.size w w') := fun w h => hderived_any s lBody 32 (by decide) (by decide) hs w h
  have D4 : Hid (∀ w, Kh w → Calls Tryz.prog 49 #[.agg #[.string s], .string ⟨#[98, 108, 105, 110, 100]⟩, .int .i64 32] w fun e w' => e = .returned (.string (bld s)) ∧ Below w.heap.size w w') := fun w h => hderived_any s lBlind 32 (by decide) (by decide) hs w h
  have D5 : Hid (∀ w, Kh w → Calls Tryz.prog 49 #[.agg #[.string s], .string ⟨#[116, 97, 103]⟩, .int .i64 16] w fun e w' => e = .returned (.string (hdk s lTag 16)) ∧ Below w.heap.size w w') := fun w h => hderived_any s lTag 16 (by decide) (by decide) hs w h
  unfold hk6
  generalize hdk s lFlow 32 = k1 at *
  generalize hdk s lMac 32 = k2 at *
  generalize hdk s lBody 32 = k3 at *
  generalize bld s = k4 at *
  generalize hdk s lTag 16 = k5 at *
  clear hs
  have h0 : w.heap.size ≠ w.heap.size + 1 := by omega
  go_enter Tryz.func22, Tryz.ntmps22
  go_wp2_with fail
  obtain ⟨W0, hW0⟩ : ∃ W, (w.alloc (.cells #[.string ⟨#[]⟩, .string ⟨#[]⟩, .string ⟨#[]⟩, .string ⟨#[]⟩, .string ⟨#[]⟩, .string ⟨#[]⟩] 55)).alloc (.cells #[.string s, .string ⟨#[]⟩, .string ⟨#[]⟩, .string ⟨#[]⟩, .string ⟨#[]⟩, .string ⟨#[]⟩] 55) = W := ⟨_, rfl⟩
  have S0 : Hid (Six W0 (w.heap.size + 1) s ⟨#[]⟩ ⟨#[]⟩ ⟨#[]⟩ ⟨#[]⟩ ⟨#[]⟩ ∧ Six W0 w.heap.size ⟨#[]⟩ ⟨#[]⟩ ⟨#[]⟩ ⟨#[]⟩ ⟨#[]⟩ ⟨#[]⟩ ∧ Below w.heap.size w W0) := by
    rw [← hW0]
    refine ⟨?_, (Six.new _ _ _ _ _ _ _ _).later ((Below.refl _ _).alloc (Nat.le_refl _) _), ((Below.refl _ _).alloc (Nat.le_refl _) _).alloc (by simp [go_sem]) _⟩
    have := Six.new (w.alloc (.cells #[.string ⟨#[]⟩, .string ⟨#[]⟩, .string ⟨#[]⟩, .string ⟨#[]⟩, .string ⟨#[]⟩, .string ⟨#[]⟩] 55)) 55 s ⟨#[]⟩ ⟨#[]⟩ ⟨#[]⟩ ⟨#[]⟩ ⟨#[]⟩
    simpa [go_sem] using this
  rw [hW0]
  clear hW0
  refine Calls.mono (D1.out _ (hK.out.later S0.out.2.2)) ?_
  rintro e v1 ⟨rfl, hb1⟩
  have Q1 : Hid (Six v1 (w.heap.size + 1) s ⟨#[]⟩ ⟨#[]⟩ ⟨#[]⟩ ⟨#[]⟩ ⟨#[]⟩ ∧ Six v1 w.heap.size ⟨#[]⟩ ⟨#[]⟩ ⟨#[]⟩ ⟨#[]⟩ ⟨#[]⟩ ⟨#[]⟩ ∧ Below w.heap.size w v1) := ⟨S0.out.1.later hb1, S0.out.2.1.later hb1, chain S0.out.2.2 hb1⟩
  clear hb1 S0 D1
  obtain ⟨fz, c0, c1, c2, c3, c4, c5⟩ := Q1.out.1
  have f1 := fz 1
  go_wp2_with fail
  obtain ⟨W1, hW1⟩ : ∃ W, v1.setCell ⟨w.heap.size + 1, 1, none⟩ (.string k1) = W := ⟨_, rfl⟩
  have S1 : Hid (Six W1 (w.heap.size + 1) s k1 ⟨#[]⟩ ⟨#[]⟩ ⟨#[]⟩ ⟨#[]⟩ ∧ Six W1 w.heap.size ⟨#[]⟩ ⟨#[]⟩ ⟨#[]⟩ ⟨#[]⟩ ⟨#[]⟩ ⟨#[]⟩ ∧ Below w.heap.size w W1) := by
    rw [← hW1]
    exact ⟨Q1.out.1.set1 k1, Q1.out.2.1.other (Ne.symm h0), Q1.out.2.2.setCell (p := ⟨w.heap.size + 1, 1, none⟩) (by simp) _⟩
  rw [hW1]
  clear hW1 Q1 fz c0 c1 c2 c3 c4 c5 f1
  refine Calls.mono (D2.out _ (hK.out.later S1.out.2.2)) ?_
  rintro e v2 ⟨rfl, hb2⟩
  have Q2 : Hid (Six v2 (w.heap.size + 1) s k1 ⟨#[]⟩ ⟨#[]⟩ ⟨#[]⟩ ⟨#[]⟩ ∧ Six v2 w.heap.size ⟨#[]⟩ ⟨#[]⟩ ⟨#[]⟩ ⟨#[]⟩ ⟨#[]⟩ ⟨#[]⟩ ∧ Below w.heap.size w v2) := ⟨S1.out.1.later hb2, S1.out.2.1.later hb2, chain S1.out.2.2 hb2⟩
  clear hb2 S1 D2
  obtain ⟨fz, c0, c1, c2, c3, c4, c5⟩ := Q2.out.1
  have f2 := fz 2
  go_wp2_with fail
  obtain ⟨W2, hW2⟩ : ∃ W, v2.setCell ⟨w.heap.size + 1, 2, none⟩ (.string k2) = W := ⟨_, rfl⟩
  have S2 : Hid (Six W2 (w.heap.size + 1) s k1 k2 ⟨#[]⟩ ⟨#[]⟩ ⟨#[]⟩ ∧ Six W2 w.heap.size ⟨#[]⟩ ⟨#[]⟩ ⟨#[]⟩ ⟨#[]⟩ ⟨#[]⟩ ⟨#[]⟩ ∧ Below w.heap.size w W2) := by
    rw [← hW2]
    exact ⟨Q2.out.1.set2 k2, Q2.out.2.1.other (Ne.symm h0), Q2.out.2.2.setCell (p := ⟨w.heap.size + 1, 2, none⟩) (by simp) _⟩
  rw [hW2]
  clear hW2 Q2 fz c0 c1 c2 c3 c4 c5 f2
  refine Calls.mono (D3.out _ (hK.out.later S2.out.2.2)) ?_
  rintro e v3 ⟨rfl, hb3⟩
  have Q3 : Hid (Six v3 (w.heap.size + 1) s k1 k2 ⟨#[]⟩ ⟨#[]⟩ ⟨#[]⟩ ∧ Six v3 w.heap.size ⟨#[]⟩ ⟨#[]⟩ ⟨#[]⟩ ⟨#[]⟩ ⟨#[]⟩ ⟨#[]⟩ ∧ Below w.heap.size w v3) := ⟨S2.out.1.later hb3, S2.out.2.1.later hb3, chain S2.out.2.2 hb3⟩
  clear hb3 S2 D3
  obtain ⟨fz, c0, c1, c2, c3, c4, c5⟩ := Q3.out.1
  have f3 := fz 3
  go_wp2_with fail
  obtain ⟨W3, hW3⟩ : ∃ W, v3.setCell ⟨w.heap.size + 1, 3, none⟩ (.string k3) = W := ⟨_, rfl⟩
  have S3 : Hid (Six W3 (w.heap.size + 1) s k1 k2 k3 ⟨#[]⟩ ⟨#[]⟩ ∧ Six W3 w.heap.size ⟨#[]⟩ ⟨#[]⟩ ⟨#[]⟩ ⟨#[]⟩ ⟨#[]⟩ ⟨#[]⟩ ∧ Below w.heap.size w W3) := by
    rw [← hW3]
    exact ⟨Q3.out.1.set3 k3, Q3.out.2.1.other (Ne.symm h0), Q3.out.2.2.setCell (p := ⟨w.heap.size + 1, 3, none⟩) (by simp) _⟩
  rw [hW3]
  clear hW3 Q3 fz c0 c1 c2 c3 c4 c5 f3
  refine Calls.mono (D4.out _ (hK.out.later S3.out.2.2)) ?_
  rintro e v4 ⟨rfl, hb4⟩
  have Q4 : Hid (Six v4 (w.heap.size + 1) s k1 k2 k3 ⟨#[]⟩ ⟨#[]⟩ ∧ Six v4 w.heap.size ⟨#[]⟩ ⟨#[]⟩ ⟨#[]⟩ ⟨#[]⟩ ⟨#[]⟩ ⟨#[]⟩ ∧ Below w.heap.size w v4) := ⟨S3.out.1.later hb4, S3.out.2.1.later hb4, chain S3.out.2.2 hb4⟩
  clear hb4 S3 D4
  obtain ⟨fz, c0, c1, c2, c3, c4, c5⟩ := Q4.out.1
  have f4 := fz 4
  go_wp2_with fail
  obtain ⟨W4, hW4⟩ : ∃ W, v4.setCell ⟨w.heap.size + 1, 4, none⟩ (.string k4) = W := ⟨_, rfl⟩
  have S4 : Hid (Six W4 (w.heap.size + 1) s k1 k2 k3 k4 ⟨#[]⟩ ∧ Six W4 w.heap.size ⟨#[]⟩ ⟨#[]⟩ ⟨#[]⟩ ⟨#[]⟩ ⟨#[]⟩ ⟨#[]⟩ ∧ Below w.heap.size w W4) := by
    rw [← hW4]
    exact ⟨Q4.out.1.set4 k4, Q4.out.2.1.other (Ne.symm h0), Q4.out.2.2.setCell (p := ⟨w.heap.size + 1, 4, none⟩) (by simp) _⟩
  rw [hW4]
  clear hW4 Q4 fz c0 c1 c2 c3 c4 c5 f4
  refine Calls.mono (D5.out _ (hK.out.later S4.out.2.2)) ?_
  rintro e v5 ⟨rfl, hb5⟩
  have Q5 : Hid (Six v5 (w.heap.size + 1) s k1 k2 k3 k4 ⟨#[]⟩ ∧ Six v5 w.heap.size ⟨#[]⟩ ⟨#[]⟩ ⟨#[]⟩ ⟨#[]⟩ ⟨#[]⟩ ⟨#[]⟩ ∧ Below w.heap.size w v5) := ⟨S4.out.1.later hb5, S4.out.2.1.later hb5, chain S4.out.2.2 hb5⟩
  clear hb5 S4 D5
  obtain ⟨fz, c0, c1, c2, c3, c4, c5⟩ := Q5.out.1
  have f5 := fz 5
  obtain ⟨gz, d0, d1, d2, d3, d4, d5⟩ := Q5.out.2.1
  have e0 := gz 0
  have e1 := gz 1
  have e2 := gz 2
  have e3 := gz 3
  have e4 := gz 4
  have e5 := gz 5
  have FF : Hid (_ ∧ _) := And.intro (Six.whole (Six.other (o := 5) (v := .string k5) Q5.out.2.1 (Ne.symm h0)) s k1 k2 k3 k4 k5) (below_six (Q5.out.2.2.setCell (p := ⟨w.heap.size + 1, 5, none⟩) (by simp) (.string k5)) (Nat.le_refl w.heap.size) (.string s) (.string k1) (.string k2) (.string k3) (.string k4) (.string k5))
  clear fz gz Q5
  go_wp2
  refine bodyPost_ret (v := .agg #[.string s, .string k1, .string k2, .string k3, .string k4, .string k5]) ?_ rfl ⟨rfl, FF.out.2⟩
  exact res_hk _ _ w.heap.size _ (by kernel_rfl) (run_loadVar_mid _ w.heap.size 0 55 [.string s, .string k1, .string k2, .string k3, .string k4, .string k5] _ (Six.range FF.out.1) Tryz.underlying55 rfl (by kernel_rfl))
theorem res_of (tmps : Array Value) (w : World) (b : Nat) (k0 k1 k2 k3 k4 : ByteArray) (e : Int) (h2 : tmps.getD 2 undef = .pointer (some ⟨b, 0, none⟩)) (h3 : tmps.getD 3 undef = .int .i64 e) (l : Five w b k0 k1 k2 k3 k4) :
    (results Tryz.f9 tmps).run Tryz.prog w = .ok (.tuple #[.agg #[.string k0, .string k1, .string k2, .string k3, .string k4], .int .i64 e]) w := by
  have l1 := run_loadVar_mid (P := Tryz.prog) w b 0 23 [.string k0, .string k1, .string k2, .string k3, .string k4] _ l.range Tryz.underlying23 rfl (by kernel_rfl)
  unfold results
  rw [Tryz.results9]
  have h2' : tmps[2]?.getD undef = .pointer (some ⟨b, 0, none⟩) := by simpa using h2
  have h3' : tmps[3]?.getD undef = .int .i64 e := by simpa using h3
  simp [h2', h3', l1, asAddr]
set_option maxHeartbeats 1000000 in
theorem of_c : OfC := fun s w hs hK => by
  obtain ⟨dz, hdz⟩ : ∃ b : Bool, decide (s.size = 32) = b := ⟨_, rfl⟩
  have KO : Hid (∀ w, Kh w → Calls Tryz.prog 22 #[.string s] w fun e w' => e = .returned (hk6 s) ∧ Below w.heap.size w w') := fun w h => keysOf_any s hs w h
  have WH : Hid (∀ (B : Nat) (w : World), w.cell? ⟨B, 0, none⟩ = some (.string s) → Calls Tryz.prog 21 #[.slice (some ⟨B, 0, none⟩) 1 1] w fun e w' => e = .returned (.bool dz) ∧ Below w.heap.size w w') := fun B w h => by
    rw [← hdz]; exact hwhole1_any s B w h
  have EV : Hid ((dz = true → ofV s = #[kv s, .int .i64 0]) ∧ (dz = false → ofV s = #[kz, .int .i64 3])) := by
    rw [← hdz]
    unfold ofV
    exact ⟨fun h => by rw [if_pos (of_decide_eq_true h)], fun h => by rw [if_neg (of_decide_eq_false h)]⟩
  unfold hk6 at KO
  unfold kv at EV
  unfold kz at EV
  generalize ofV s = V at *
  generalize hdk s lFlow 32 = k1 at *
  generalize hdk s lMac 32 = k2 at *
  generalize hdk s lBody 32 = k3 at *
  generalize bld s = k4 at *
  generalize hdk s lTag 16 = k5 at *
  clear hdz hs
  go_enter Tryz.func9, Tryz.ntmps9
  go_wp2_with fail
  refine Calls.mono (WH.out _ _ (by simp [go_sem])) ?_
  rintro e w1 ⟨rfl, hb1⟩
  have S1 : Hid (Five w1 w.heap.size ⟨#[]⟩ ⟨#[]⟩ ⟨#[]⟩ ⟨#[]⟩ ⟨#[]⟩ ∧ Below w.heap.size w w1) := by
    have B0 := ((Below.refl w.heap.size w).alloc (Nat.le_refl _) (.cells #[.string ⟨#[]⟩, .string ⟨#[]⟩, .string ⟨#[]⟩, .string ⟨#[]⟩, .string ⟨#[]⟩] 23)).alloc (by simp [go_sem]) (.cells #[.string s] 9)
    exact ⟨((Five.new _ _ _ _ _ _ _).later ((Below.refl _ _).alloc (Nat.le_refl _) _)).later hb1, chain B0 hb1⟩
  clear hb1 WH
  cases dz with
  | true =>
    go_wp2_with fail
    refine Calls.mono (KO.out _ (hK.out.later S1.out.2)) ?_
    rintro e w2 ⟨rfl, hb2⟩
    have S2 : Hid (Five w2 w.heap.size ⟨#[]⟩ ⟨#[]⟩ ⟨#[]⟩ ⟨#[]⟩ ⟨#[]⟩ ∧ Below w.heap.size w w2) := ⟨S1.out.1.later hb2, chain S1.out.2 hb2⟩
    obtain ⟨gz, d0, d1, d2, d3, d4⟩ := S2.out.1
    have e0 := gz 0
    have e1 := gz 1
    have e2 := gz 2
    have e3 := gz 3
    have e4 := gz 4
    have FF : Hid (_ ∧ _) := And.intro (Five.whole S2.out.1 k1 k2 k3 k4 k5) (below_five S2.out.2 (Nat.le_refl w.heap.size) (.string k1) (.string k2) (.string k3) (.string k4) (.string k5))
    clear gz hb2 S1 S2
    have fk := field_keys s k1 k2 k3 k4 k5
    go_wp2
    refine bodyPost_ret (v := .tuple #[.agg #[.string k1, .string k2, .string k3, .string k4, .string k5], .int .i64 0]) ?_ rfl ⟨by rw [EV.out.1 (by first | rfl | trivial)], FF.out.2⟩
    exact res_of _ _ w.heap.size k1 k2 k3 k4 k5 0 (by kernel_rfl) (by kernel_rfl) FF.out.1
  | false =>
    obtain ⟨gz, d0, d1, d2, d3, d4⟩ := S1.out.1
    have e0 := gz 0
    have e1 := gz 1
    have e2 := gz 2
    have e3 := gz 3
    have e4 := gz 4
    have FF : Hid (_ ∧ _) := And.intro (Five.whole S1.out.1 ⟨#[]⟩ ⟨#[]⟩ ⟨#[]⟩ ⟨#[]⟩ ⟨#[]⟩) (below_five S1.out.2 (Nat.le_refl w.heap.size) (.string ⟨#[]⟩) (.string ⟨#[]⟩) (.string ⟨#[]⟩) (.string ⟨#[]⟩) (.string ⟨#[]⟩))
    clear gz S1
    go_wp2
    refine bodyPost_ret (v := .tuple #[.agg #[.string ⟨#[]⟩, .string ⟨#[]⟩, .string ⟨#[]⟩, .string ⟨#[]⟩, .string ⟨#[]⟩], .int .i64 3]) ?_ rfl ⟨by rw [EV.out.2 (by first | rfl | trivial)], FF.out.2⟩
    exact res_of _ _ w.heap.size ⟨#[]⟩ ⟨#[]⟩ ⟨#[]⟩ ⟨#[]⟩ ⟨#[]⟩ 3 (by kernel_rfl) (by kernel_rfl) FF.out.1
end Go.Proofs.YtckfplpiakbbdaaGreatDoor
