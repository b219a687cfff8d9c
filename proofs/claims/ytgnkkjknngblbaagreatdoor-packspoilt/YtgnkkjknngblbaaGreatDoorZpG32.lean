/- Parts: HP0, PkM, PkQ, HK0, HL1, PkE. -/
import Derived.Test.YtgnkkjknngblbaaGreatDoorZpG31
import Derived.Test.YtgnkkjknngblbaaGreatDoorZpG28
import Derived.Test.YtgnkkjknngblbaaGreatDoorZpG16
import Derived.Deep.RegionHeld3
namespace Go.Proofs.YtgnkkjknngblbaaGreatDoor
open Go.RowKit Go.Proofs.Fd Go.Proofs.Hs Go.Proofs.Cc Go.Proofs.Hd Go.Proofs.Rt
set_option maxRecDepth 20000
def zba (n : Nat) : ByteArray := ⟨(List.replicate n (0 : UInt8)).toArray⟩
theorem zba_size (n : Nat) : (zba n).size = n := by unfold zba; rw [ba_sz, List.length_replicate]
theorem zba_data (n : Nat) : (zba n).data.toList = List.replicate n 0 := rfl
theorem strm_tk (k n : List UInt8) (c : UInt32) (m : Nat) (h : m ≤ 240) : (strm k n c 240).take m = strm k n c m := by
  rw [← strm_of k n c 240 4 (by decide), List.take_take, Nat.min_eq_left h, strm_of k n c m 4 (by omega)]
def hk6 (s : ByteArray) : Value := .agg #[.string s, .string (hdk s lFlow 32), .string (hdk s lMac 32), .string (hdk s lBody 32), .string (bld s), .string (hdk s lTag 16)]
def htn (s t : ByteArray) : ByteArray := ⟨(xorl t.data.toList (hflow s)).toArray⟩
theorem htn_is (s t : ByteArray) (h : t.size ≤ 240) : (⟨(xorl t.data.toList (strm (hdk s lFlow 32).data.toList (zba 12).data.toList 0 t.size)).toArray⟩ : ByteArray) = htn s t := by
  unfold htn hflow
  rw [xorl_short t.data.toList (strm (drv s.data.toList lFlow 32) (List.replicate 12 0) 0 240), list_sz, strm_tk _ _ _ _ h]
  rfl
theorem htn_size (s t : ByteArray) (h : t.size ≤ 240) : (htn s t).size = t.size := by
  unfold htn
  rw [ba_sz, xorl_len _ _ (by rw [list_sz, hflow_len]; exact h), list_sz]
def hmb (s l : ByteArray) : ByteArray := ⟨(hmacf s l.data.toList).toArray⟩
theorem hmb_size (s l : ByteArray) : (hmb s l).size = 16 := by unfold hmb; rw [ba_sz, hmacf_len]
def Six (w : World) (g : Nat) (k0 k1 k2 k3 k4 k5 : ByteArray) : Prop :=
  (∀ o, w.frozen? ⟨g, o, none⟩ = false) ∧ w.cell? ⟨g, 0, none⟩ = some (.string k0) ∧ w.cell? ⟨g, 1, none⟩ = some (.string k1) ∧ w.cell? ⟨g, 2, none⟩ = some (.string k2) ∧ w.cell? ⟨g, 3, none⟩ = some (.string k3) ∧ w.cell? ⟨g, 4, none⟩ = some (.string k4) ∧ w.cell? ⟨g, 5, none⟩ = some (.string k5)
theorem Six.later {w w' : World} {g : Nat} {k0 k1 k2 k3 k4 k5 : ByteArray} (h : Six w g k0 k1 k2 k3 k4 k5) (hb : Below w.heap.size w w') : Six w' g k0 k1 k2 k3 k4 k5 := by
  obtain ⟨f, h0, h1, h2, h3, h4, h5⟩ := h
  exact ⟨fun o => (frozen_kept hb (World.block_lt_of_cell? _ _ h0)).trans (f o), cell_later hb h0, cell_later hb h1, cell_later hb h2, cell_later hb h3, cell_later hb h4, cell_later hb h5⟩
theorem Six.lt {w : World} {g : Nat} {k0 k1 k2 k3 k4 k5 : ByteArray} (h : Six w g k0 k1 k2 k3 k4 k5) : g < w.heap.size := World.block_lt_of_cell? _ _ h.2.1
theorem Six.new (w : World) (t : TypeId) (y0 y1 y2 y3 y4 y5 : ByteArray) : Six (w.alloc (.cells #[.string y0, .string y1, .string y2, .string y3, .string y4, .string y5] t)) w.heap.size y0 y1 y2 y3 y4 y5 :=
  ⟨fun o => by simp [go_sem], by simp [go_sem], by simp [go_sem], by simp [go_sem], by simp [go_sem], by simp [go_sem], by simp [go_sem]⟩
theorem Six.set1 {w : World} {g : Nat} {k0 k1 k2 k3 k4 k5 : ByteArray} (h : Six w g k0 k1 k2 k3 k4 k5) (x : ByteArray) : Six (w.setCell ⟨g, 1, none⟩ (.string x)) g k0 x k2 k3 k4 k5 := by
  obtain ⟨f, h0, h1, h2, h3, h4, h5⟩ := h
  refine ⟨fun o => by simp [go_sem, f], ?_, ?_, ?_, ?_, ?_, ?_⟩ <;> simp [go_sem, h0, h1, h2, h3, h4, h5]
theorem Six.set2 {w : World} {g : Nat} {k0 k1 k2 k3 k4 k5 : ByteArray} (h : Six w g k0 k1 k2 k3 k4 k5) (x : ByteArray) : Six (w.setCell ⟨g, 2, none⟩ (.string x)) g k0 k1 x k3 k4 k5 := by
  obtain ⟨f, h0, h1, h2, h3, h4, h5⟩ := h
  refine ⟨fun o => by simp [go_sem, f], ?_, ?_, ?_, ?_, ?_, ?_⟩ <;> simp [go_sem, h0, h1, h2, h3, h4, h5]
theorem Six.set3 {w : World} {g : Nat} {k0 k1 k2 k3 k4 k5 : ByteArray} (h : Six w g k0 k1 k2 k3 k4 k5) (x : ByteArray) : Six (w.setCell ⟨g, 3, none⟩ (.string x)) g k0 k1 k2 x k4 k5 := by
  obtain ⟨f, h0, h1, h2, h3, h4, h5⟩ := h
  refine ⟨fun o => by simp [go_sem, f], ?_, ?_, ?_, ?_, ?_, ?_⟩ <;> simp [go_sem, h0, h1, h2, h3, h4, h5]
theorem Six.set4 {w : World} {g : Nat} {k0 k1 k2 k3 k4 k5 : ByteArray} (h : Six w g k0 k1 k2 k3 k4 k5) (x : ByteArray) : Six (w.setCell ⟨g, 4, none⟩ (.string x)) g k0 k1 k2 k3 x k5 := by
  obtain ⟨f, h0, h1, h2, h3, h4, h5⟩ := h
  refine ⟨fun o => by simp [go_sem, f], ?_, ?_, ?_, ?_, ?_, ?_⟩ <;> simp [go_sem, h0, h1, h2, h3, h4, h5]
theorem Six.set5 {w : World} {g : Nat} {k0 k1 k2 k3 k4 k5 : ByteArray} (h : Six w g k0 k1 k2 k3 k4 k5) (x : ByteArray) : Six (w.setCell ⟨g, 5, none⟩ (.string x)) g k0 k1 k2 k3 k4 x := by
  obtain ⟨f, h0, h1, h2, h3, h4, h5⟩ := h
  refine ⟨fun o => by simp [go_sem, f], ?_, ?_, ?_, ?_, ?_, ?_⟩ <;> simp [go_sem, h0, h1, h2, h3, h4, h5]
theorem Six.range {w : World} {b : Nat} {x0 x1 x2 x3 x4 x5 : ByteArray} (h : Six w b x0 x1 x2 x3 x4 x5) : w.rangeAt b 0 [.string x0, .string x1, .string x2, .string x3, .string x4, .string x5] := by
  obtain ⟨-, h0, h1, h2, h3, h4, h5⟩ := h
  intro j v hv
  rcases (by have := (List.getElem?_eq_some_iff.1 hv).1; simp at this; omega : j = 0 ∨ j = 1 ∨ j = 2 ∨ j = 3 ∨ j = 4 ∨ j = 5) with rfl | rfl | rfl | rfl | rfl | rfl
  · simp at hv; subst hv; simpa using h0
  · simp at hv; subst hv; simpa using h1
  · simp at hv; subst hv; simpa using h2
  · simp at hv; subst hv; simpa using h3
  · simp at hv; subst hv; simpa using h4
  · simp at hv; subst hv; simpa using h5
theorem Six.whole {w : World} {b : Nat} {x0 x1 x2 x3 x4 x5 : ByteArray} (h : Six w b x0 x1 x2 x3 x4 x5) (y0 y1 y2 y3 y4 y5 : ByteArray) :
    Six ((((((w.setCell ⟨b, 0, none⟩ (.string y0)).setCell ⟨b, 1, none⟩ (.string y1)).setCell ⟨b, 2, none⟩ (.string y2)).setCell ⟨b, 3, none⟩ (.string y3)).setCell ⟨b, 4, none⟩ (.string y4)).setCell ⟨b, 5, none⟩ (.string y5)) b y0 y1 y2 y3 y4 y5 := by
  obtain ⟨f, h0, h1, h2, h3, h4, h5⟩ := h
  refine ⟨fun o => by simp [go_sem, f], ?_, ?_, ?_, ?_, ?_, ?_⟩ <;> simp [go_sem, h0, h1, h2, h3, h4, h5]
theorem below_six {B : Nat} {a w : World} (h : Below B a w) {c : Nat} (hc : B ≤ c) (y0 y1 y2 y3 y4 y5 : Value) :
    Below B a ((((((w.setCell ⟨c, 0, none⟩ y0).setCell ⟨c, 1, none⟩ y1).setCell ⟨c, 2, none⟩ y2).setCell ⟨c, 3, none⟩ y3).setCell ⟨c, 4, none⟩ y4).setCell ⟨c, 5, none⟩ y5) :=
  (((((h.setCell (p := ⟨c, 0, none⟩) hc _).setCell (p := ⟨c, 1, none⟩) hc _).setCell (p := ⟨c, 2, none⟩) hc _).setCell (p := ⟨c, 3, none⟩) hc _).setCell (p := ⟨c, 4, none⟩) hc _).setCell (p := ⟨c, 5, none⟩) hc _
def Five (w : World) (g : Nat) (k0 k1 k2 k3 k4 : ByteArray) : Prop :=
  (∀ o, w.frozen? ⟨g, o, none⟩ = false) ∧ w.cell? ⟨g, 0, none⟩ = some (.string k0) ∧ w.cell? ⟨g, 1, none⟩ = some (.string k1) ∧ w.cell? ⟨g, 2, none⟩ = some (.string k2) ∧ w.cell? ⟨g, 3, none⟩ = some (.string k3) ∧ w.cell? ⟨g, 4, none⟩ = some (.string k4)
theorem Five.later {w w' : World} {g : Nat} {k0 k1 k2 k3 k4 : ByteArray} (h : Five w g k0 k1 k2 k3 k4) (hb : Below w.heap.size w w') : Five w' g k0 k1 k2 k3 k4 := by
  obtain ⟨f, h0, h1, h2, h3, h4⟩ := h
  exact ⟨fun o => (frozen_kept hb (World.block_lt_of_cell? _ _ h0)).trans (f o), cell_later hb h0, cell_later hb h1, cell_later hb h2, cell_later hb h3, cell_later hb h4⟩
theorem Five.lt {w : World} {g : Nat} {k0 k1 k2 k3 k4 : ByteArray} (h : Five w g k0 k1 k2 k3 k4) : g < w.heap.size := World.block_lt_of_cell? _ _ h.2.1
theorem Five.new (w : World) (t : TypeId) (y0 y1 y2 y3 y4 : ByteArray) : Five (w.alloc (.cells #[.string y0, .string y1, .string y2, .string y3, .string y4] t)) w.heap.size y0 y1 y2 y3 y4 :=
  ⟨fun o => by simp [go_sem], by simp [go_sem], by simp [go_sem], by simp [go_sem], by simp [go_sem], by simp [go_sem]⟩
theorem Five.range {w : World} {b : Nat} {x0 x1 x2 x3 x4 : ByteArray} (h : Five w b x0 x1 x2 x3 x4) : w.rangeAt b 0 [.string x0, .string x1, .string x2, .string x3, .string x4] := by
  obtain ⟨-, h0, h1, h2, h3, h4⟩ := h
  intro j v hv
  rcases (by have := (List.getElem?_eq_some_iff.1 hv).1; simp at this; omega : j = 0 ∨ j = 1 ∨ j = 2 ∨ j = 3 ∨ j = 4) with rfl | rfl | rfl | rfl | rfl
  · simp at hv; subst hv; simpa using h0
  · simp at hv; subst hv; simpa using h1
  · simp at hv; subst hv; simpa using h2
  · simp at hv; subst hv; simpa using h3
  · simp at hv; subst hv; simpa using h4
theorem Five.whole {w : World} {b : Nat} {x0 x1 x2 x3 x4 : ByteArray} (h : Five w b x0 x1 x2 x3 x4) (y0 y1 y2 y3 y4 : ByteArray) :
    Five (((((w.setCell ⟨b, 0, none⟩ (.string y0)).setCell ⟨b, 1, none⟩ (.string y1)).setCell ⟨b, 2, none⟩ (.string y2)).setCell ⟨b, 3, none⟩ (.string y3)).setCell ⟨b, 4, none⟩ (.string y4)) b y0 y1 y2 y3 y4 := by
  obtain ⟨f, h0, h1, h2, h3, h4⟩ := h
  refine ⟨fun o => by simp [go_sem, f], ?_, ?_, ?_, ?_, ?_⟩ <;> simp [go_sem, h0, h1, h2, h3, h4]
theorem below_five {B : Nat} {a w : World} (h : Below B a w) {c : Nat} (hc : B ≤ c) (y0 y1 y2 y3 y4 : Value) :
    Below B a (((((w.setCell ⟨c, 0, none⟩ y0).setCell ⟨c, 1, none⟩ y1).setCell ⟨c, 2, none⟩ y2).setCell ⟨c, 3, none⟩ y3).setCell ⟨c, 4, none⟩ y4) :=
  ((((h.setCell (p := ⟨c, 0, none⟩) hc _).setCell (p := ⟨c, 1, none⟩) hc _).setCell (p := ⟨c, 2, none⟩) hc _).setCell (p := ⟨c, 3, none⟩) hc _).setCell (p := ⟨c, 4, none⟩) hc _
theorem wh_all (ps : List ByteArray) : (ps.all fun p => p.size == 32) = Crv.wh ps := rfl
end Go.Proofs.YtgnkkjknngblbaaGreatDoor
namespace Go.Proofs.YtgnkkjknngblbaaGreatDoor
open Go.RowKit Go.Proofs.Fd Go.Proofs.Hs Go.Proofs.Cc Go.Proofs.Hd Go.Proofs.Rt Go.Proofs.Wd
set_option maxRecDepth 20000
def bdy (s : ByteArray) : ByteArray := hdk s lBody 32
def rtg (s : ByteArray) : ByteArray := hdk s lTag 16
def pld : List ByteArray → List UInt8 → List UInt8
  | [], t => plainl t 256
  | s :: r, t => shutl (bdy s).data.toList (pld r t)
theorem pld_nil (t : List UInt8) : pld [] t = plainl t 256 := by rw [pld]
theorem pld_cons (s : ByteArray) (r : List ByteArray) (t : List UInt8) : pld (s :: r) t = shutl (bdy s).data.toList (pld r t) := by rw [pld]
theorem pld_len (ss : List ByteArray) (t : List UInt8) (h : t.length ≤ 222) : (pld ss t).length = 256 := by
  induction ss with
  | nil => rw [pld_nil, plainl_len _ _ (by omega)]
  | cons s r ih => rw [pld_cons, shutl_len _ _ (by omega), ih]
theorem pld_open (s : ByteArray) (r : List ByteArray) (t : List UInt8) (h : t.length ≤ 222) : openl (bdy s).data.toList (pld (s :: r) t) = pld r t := by
  rw [pld_cons, open_shut _ _ (by rw [pld_len r t h]; decide)]
theorem pld_text (t : List UInt8) (h : t.length ≤ 222) : textl (pld [] t) = some t := by
  rw [pld_nil, text_plain t 256 (by omega) (by decide)]
theorem pld_inj (ss : List ByteArray) (a b : List UInt8) (ha : a.length ≤ 222) (hb : b.length ≤ 222) (h : pld ss a = pld ss b) : a = b := by
  induction ss with
  | nil =>
    have := pld_text a ha
    rw [h, pld_text b hb] at this
    exact (Option.some.inj this).symm
  | cons s r ih =>
    apply ih
    rw [← pld_open s r a ha, h, pld_open s r b hb]
abbrev Had8 := Except Int (Hp × ByteArray × ByteArray)
def hpl (p h : ByteArray) : Had8 :=
  if p.size = 32 ∧ h.size = 248 then
    (if Crv.tm p (h.extract 0 32) = 0 then .error 20
    else if hmacf (Crv.ek (Crv.tm p (h.extract 0 32))) (h.data.toList.drop 48) = (h.data.toList.drop 32).take 16 then
      (match dcd ((hplain (Crv.ek (Crv.tm p (h.extract 0 32))) (h.data.toList.drop 48)).take 24) with
        | none => .error 70
        | some x => .ok (x, (if x.k = 1 then ⟨((Crv.ek (Crv.tm (bld (Crv.ek (Crv.tm p (h.extract 0 32)))) (h.extract 0 32))).data.toList ++ (hplain (Crv.ek (Crv.tm p (h.extract 0 32))) (h.data.toList.drop 48)).drop 24).toArray⟩ else ⟨#[]⟩), (Crv.ek (Crv.tm p (h.extract 0 32)))))
    else .error 81)
  else .error 3
def h8V : Had8 → Array Value
  | .error e => #[hv zh, .string ⟨#[]⟩, kz, .int .i64 e]
  | .ok (x, n, s) => #[hv x, .string n, kv s, .int .i64 0]
theorem plV_hpl (p h : ByteArray) : plV p h = h8V (hpl p h) := by
  unfold plV hpl
  by_cases q1 : p.size = 32 ∧ h.size = 248
  · rw [if_pos q1, if_pos q1]
    by_cases q2 : Crv.tm p (h.extract 0 32) = 0
    · rw [if_pos q2, if_pos q2, h8V]
    · rw [if_neg q2, if_neg q2]
      by_cases q3 : hmacf (Crv.ek (Crv.tm p (h.extract 0 32))) (h.data.toList.drop 48) = (h.data.toList.drop 32).take 16
      · rw [if_pos q3, if_pos q3]
        cases dcd ((hplain (Crv.ek (Crv.tm p (h.extract 0 32))) (h.data.toList.drop 48)).take 24) with
        | none => simp only [h8V]
        | some x => simp only [h8V]
      · rw [if_neg q3, if_neg q3, h8V]
  · rw [if_neg q1, if_neg q1, h8V]
theorem h8V_on {a : Had8} {x : Hp} {n s : ByteArray} (h : h8V a = #[hv x, .string n, kv s, .int .i64 0]) (hk : ∀ e : Int, a ≠ .error e) : ∃ s', a = .ok (x, n, s') ∧ kv s' = kv s := by
  cases a with
  | error e => exact absurd rfl (hk e)
  | ok v =>
    obtain ⟨y, m, s'⟩ := v
    simp only [h8V] at h
    have h' := congrArg Array.toList h
    simp only [List.cons.injEq] at h'
    obtain ⟨h1, h2, h3, -⟩ := h'
    have e1 : y = x := by
      obtain ⟨a1, a2, a3, a4, a5⟩ := y
      obtain ⟨b1, b2, b3, b4, b5⟩ := x
      unfold hv at h1
      simp at h1
      obtain ⟨rfl, rfl, rfl, rfl, rfl⟩ := h1
      rfl
    have e2 : m = n := by simpa using h2
    subst e1 e2
    exact ⟨s', rfl, h3⟩
def pdv (x : Hp) (n t s : ByteArray) : Value := .agg #[.int .i64 x.k, .int .i64 x.n, .int .i64 x.u, .int .i64 x.d, .string x.id, .string n, .string t, .string s]
def pdz : Value := pdv zh ⟨#[]⟩ ⟨#[]⟩ ⟨#[]⟩
def ppV (p b : ByteArray) : Array Value :=
  if b.size = 504 then (match hpl p (b.extract 0 248) with
    | .error e => #[pdz, .int .i64 e]
    | .ok (x, n, s) => if x.k = 1 then #[pdv x ⟨(n.data.toList ++ openl (bdy s).data.toList (b.data.toList.drop 248)).toArray⟩ (rtg s) ⟨#[]⟩, .int .i64 0]
      else (match textl (openl (bdy s).data.toList (b.data.toList.drop 248)) with
        | none => #[pdz, .int .i64 90]
        | some t => #[pdv x ⟨#[]⟩ (rtg s) ⟨t.toArray⟩, .int .i64 0]))
  else #[pdz, .int .i64 3]
theorem ppV_of (p : ByteArray) (h : ByteArray) (B : List UInt8) (x : Hp) (n s : ByteArray) (zh' : h.size = 248) (zB : B.length = 256) (he : hpl p h = .ok (x, n, s)) :
    ppV p ⟨(h.data.toList ++ B).toArray⟩ = if x.k = 1 then #[pdv x ⟨(n.data.toList ++ openl (bdy s).data.toList B).toArray⟩ (rtg s) ⟨#[]⟩, .int .i64 0]
      else (match textl (openl (bdy s).data.toList B) with
        | none => #[pdz, .int .i64 90]
        | some t => #[pdv x ⟨#[]⟩ (rtg s) ⟨t.toArray⟩, .int .i64 0]) := by
  have e1 : (⟨(h.data.toList ++ B).toArray⟩ : ByteArray).extract 0 248 = h := by
    apply ByteArray.ext
    apply Array.toList_inj.1
    rw [ba_cut, List.drop_zero, List.take_append_of_le_length (by rw [list_sz]; omega), List.take_of_length_le (by rw [list_sz]; omega)]
  have e2 : (⟨(h.data.toList ++ B).toArray⟩ : ByteArray).data.toList.drop 248 = B := by
    show (h.data.toList ++ B).drop 248 = B
    rw [List.drop_append_of_le_length (by rw [list_sz]; omega), List.drop_of_length_le (by rw [list_sz]; omega), List.nil_append]
  have z : (⟨(h.data.toList ++ B).toArray⟩ : ByteArray).size = 504 := by rw [ba_sz, List.length_append, list_sz, zh', zB]
  unfold ppV
  rw [if_pos z, e1, he, e2]
end Go.Proofs.YtgnkkjknngblbaaGreatDoor
namespace Go.Proofs.YtgnkkjknngblbaaGreatDoor
open Go.RowKit Go.Proofs.Fd Go.Proofs.Hs Go.Proofs.Cc Go.Proofs.Hd Go.Proofs.Rt Go.Proofs.Wd
set_option maxRecDepth 20000
theorem kv_parts {a b : ByteArray} (h : kv a = kv b) : bdy a = bdy b ∧ rtg a = rtg b := by
  unfold kv at h
  simp only [Value.agg.injEq] at h
  have h' := congrArg Array.toList h
  simp only [List.cons.injEq, Value.string.injEq] at h'
  exact ⟨h'.2.2.1, h'.2.2.2.2.1⟩
theorem kv_ne (s : ByteArray) : kz ≠ kv s := by
  intro h
  unfold kz kv at h
  simp only [Value.agg.injEq] at h
  have h' := congrArg Array.toList h
  simp only [List.cons.injEq, Value.string.injEq] at h'
  have := congrArg ByteArray.size h'.1
  rw [hdk_size] at this
  exact absurd this (by decide)
theorem hpl_on {p h : ByteArray} {x : Hp} {n s : ByteArray} (e : plV p h = #[hv x, .string n, kv s, .int .i64 0]) : ∃ s', hpl p h = .ok (x, n, s') ∧ bdy s' = bdy s ∧ rtg s' = rtg s := by
  rw [plV_hpl] at e
  obtain ⟨s', h1, h2⟩ := h8V_on e (fun c hc => by
    rw [hc] at e
    simp only [h8V] at e
    have h' := congrArg Array.toList e
    simp only [List.cons.injEq] at h'
    exact kv_ne s h'.2.2.1)
  exact ⟨s', h1, kv_parts h2⟩
theorem openl_inj (k a b : List UInt8) (ha : 32 ≤ a.length) (hb : 32 ≤ b.length) (h : openl k a = openl k b) : a = b := by
  rw [← shut_open k a ha, h, shut_open k b hb]
theorem textl_plain (b t : List UInt8) (hb : b.length ≤ 8192) (h : textl b = some t) : b = plainl t b.length := by
  unfold textl at h
  split at h
  · rename_i hc
    obtain ⟨h1, h2, h3⟩ := hc
    have ht : t = (b.drop 34).take (told b) := (Option.some.inj h).symm
    have lt : t.length = told b := by rw [ht, List.length_take, List.length_drop]; omega
    have z1 : b.take 32 = List.replicate 32 0 := by
      apply List.ext_getElem?
      intro i
      by_cases hi : i < 32
      · rw [List.getElem?_replicate_of_lt hi]
        have hl : i < (b.take 32).length := by rw [List.length_take]; omega
        rw [List.getElem?_eq_getElem hl]
        have := List.all_eq_true.1 h1 _ (List.getElem_mem hl)
        congr 1
        simpa using this
      · rw [List.getElem?_eq_none (by rw [List.length_take]; omega), List.getElem?_eq_none (by simpa using hi)]
    have z2 : b.drop (34 + told b) = List.replicate (b.length - 34 - t.length) 0 := by
      apply List.ext_getElem?
      intro i
      by_cases hi : i < b.length - 34 - t.length
      · rw [List.getElem?_replicate_of_lt hi]
        have hl : i < (b.drop (34 + told b)).length := by rw [List.length_drop]; omega
        rw [List.getElem?_eq_getElem hl]
        have := List.all_eq_true.1 h3 _ (List.getElem_mem hl)
        congr 1
        simpa using this
      · rw [List.getElem?_eq_none (by rw [List.length_drop]; omega), List.getElem?_eq_none (by simpa using hi)]
    have l32 : 32 < b.length := by omega
    have l33 : 33 < b.length := by omega
    have e32 : b.getD 32 0 = b[32] := by rw [List.getD_eq_getElem?_getD, List.getElem?_eq_getElem l32]; rfl
    have e33 : b.getD 33 0 = b[33] := by rw [List.getD_eq_getElem?_getD, List.getElem?_eq_getElem l33]; rfl
    have tt : told b = b[32].toNat * 256 + b[33].toNat := by unfold told; rw [e32, e33]
    have q1 := b[32].toNat_lt
    have q2 := b[33].toNat_lt
    have c1 : UInt8.ofNat (t.length / 256) = b[32] := by
      rw [lt, tt]
      apply UInt8.toNat_inj.1
      rw [UInt8.toNat_ofNat']
      omega
    have c2 : UInt8.ofNat t.length = b[33] := by
      rw [lt, tt]
      apply UInt8.toNat_inj.1
      rw [UInt8.toNat_ofNat']
      omega
    unfold plainl
    rw [c1, c2, ← z1, ← z2, ht]
    have s1 : b = b.take 32 ++ b.drop 32 := (List.take_append_drop 32 b).symm
    have s2 : b.drop 32 = b[32] :: b[33] :: b.drop 34 := by rw [List.drop_eq_getElem_cons l32, List.drop_eq_getElem_cons l33]
    have s3 : b.drop 34 = (b.drop 34).take (told b) ++ b.drop (34 + told b) := by rw [← List.drop_drop, List.take_append_drop]
    conv => lhs; rw [s1, s2, s3]
    simp
  · cases h
def pkt (seed : ByteArray) (ss : List ByteArray) (hs : List Hp) (t : List UInt8) (i : Nat) : ByteArray := ⟨(hhead seed ss hs i ++ pld (ss.drop i) t).toArray⟩
theorem pack_step (seed : ByteArray) (ks : List ByteArray) (hs : List Hp) (hz : seed.size = 32) (hk : ∀ k ∈ ks, k.size = 32) (hp : pth hs = 0) (hl : hs.length = ks.length) :
    ∃ ss, ss.length = ks.length ∧ mkE seed (ks.map fun k => Crv.ek (Crv.pub k)) hs = 0 ∧ mkS seed (ks.map fun k => Crv.ek (Crv.pub k)) hs = ss ∧ mkH seed (ks.map fun k => Crv.ek (Crv.pub k)) hs = ⟨(hhead seed ss hs 0).toArray⟩
      ∧ ∀ i (hi : i < ks.length), (hhead seed ss hs i).length = 248 ∧ ∀ B : List UInt8, B.length = 256 → ppV ks[i] ⟨(hhead seed ss hs i ++ B).toArray⟩ =
        if i + 1 < ks.length then #[pdv (hs.getD i zh) ⟨(hhead seed ss hs (i + 1) ++ openl (bdy (nth ss i)).data.toList B).toArray⟩ (rtg (nth ss i)) ⟨#[]⟩, .int .i64 0]
        else (match textl (openl (bdy (nth ss i)).data.toList B) with
          | none => #[pdz, .int .i64 90]
          | some t => #[pdv (hs.getD i zh) ⟨#[]⟩ (rtg (nth ss i)) ⟨t.toArray⟩, .int .i64 0]) := by
  obtain ⟨ss, s1, s2, s3, s4, s5⟩ := made_pub seed ks hs hz hk hp hl
  obtain ⟨g1, g2, g3, g4⟩ := pth_zero hs hp
  refine ⟨ss, s1, s2, s3, s4, fun i hi => ?_⟩
  obtain ⟨p1, p2⟩ := s5 i hi
  refine ⟨p2, fun B hB => ?_⟩
  obtain ⟨s', q1, q2, q3⟩ := hpl_on p1
  have := ppV_of ks[i] ⟨(hhead seed ss hs i).toArray⟩ B _ _ _ (by rw [ba_sz]; exact p2) hB q1
  rw [this, q2, q3]
  by_cases hlast : i + 1 < ks.length
  · have hk1 : (hs.getD i zh).k = 1 := (g4 i (by omega)).2 (by omega)
    rw [if_pos hk1, if_pos hlast, if_pos hlast]
  · have hk1 : ¬ (hs.getD i zh).k = 1 := fun q => by have := (g4 i (by omega)).1 q; omega
    first
    | (rw [if_neg hk1, if_neg hlast]; done)
    | (rw [if_neg hk1, if_neg hlast]; cases textl (openl (bdy (nth ss i)).data.toList B) <;> rfl)
theorem spoilt_end (k : List UInt8) (B : List UInt8) (t : List UInt8) (hB : B.length = 256) (hne : B ≠ shutl k (plainl t 256)) : textl (openl k B) ≠ some t := fun h => by
  have l : (openl k B).length = 256 := by rw [openl_len _ _ (by omega)]; exact hB
  have e := textl_plain _ _ (by omega) h
  rw [l] at e
  exact hne (by rw [← e, shut_open _ _ (by omega)])
end Go.Proofs.YtgnkkjknngblbaaGreatDoor
namespace Go.Proofs.YtgnkkjknngblbaaGreatDoor
open Go.RowKit Go.Proofs.Fd
set_option maxRecDepth 20000
end Go.Proofs.YtgnkkjknngblbaaGreatDoor
namespace Go.Proofs.YtgnkkjknngblbaaGreatDoor
open Go.RowKit Go.Proofs.Fd Go.Proofs.Hs Go.Proofs.Cc Go.Proofs.Hd Go.Proofs.Rt
set_option maxRecDepth 20000
def pvs (s : ByteArray) (m : Nat) : List ByteArray := (List.range m).map (pv s)
def pps (s : ByteArray) (m : Nat) : List ByteArray := (List.range m).map (pp s)
theorem pps_pvs (s : ByteArray) (m : Nat) : pps s m = (pvs s m).map fun k => Crv.ek (Crv.pub k) := by
  unfold pps pvs
  rw [List.map_map]
  exact List.map_congr_left fun i _ => by unfold pp; rfl
theorem pps_len (s : ByteArray) (m : Nat) : (pps s m).length = m := by simp [pps]
theorem pvs_len (s : ByteArray) (m : Nat) : (pvs s m).length = m := by simp [pvs]
theorem pvs_at (s : ByteArray) (m i : Nat) (h : i < (pvs s m).length) : (pvs s m)[i] = pv s i := by simp [pvs]
theorem pps_cells (s : ByteArray) (k : Nat) : scells (pps s (k + 1)) = scells (pps s k) ++ [.string (pp s k)] := by simp [scells, pps, List.range_succ]
theorem own8 {w w' : World} {base : Nat} {e : TypeId} {size : Nat} {v : Value} {n : Nat} {xs : List Value} (h : w.ownsRow base e size v n xs) (hb : Below w.heap.size w w') : w'.ownsRow base e size v n xs := by
  refine ⟨h.1, ?_⟩
  rcases h.2 with hn | ⟨g, cap, cur, rfl, hbg, hgg, rest⟩
  · exact .inl hn
  · refine .inr ⟨g, cap, cur, rfl, hbg, ?_, rest⟩
    rw [hb.block g (Array.getElem?_eq_some_iff.1 hgg).1]
    exact hgg
end Go.Proofs.YtgnkkjknngblbaaGreatDoor
namespace Go.Proofs.YtgnkkjknngblbaaGreatDoor
open Go.RowKit Go.Proofs.Fd Go.Proofs.Hs Go.Proofs.Cc Go.Proofs.Hd Go.Proofs.Rt Go.Proofs.Wd
set_option maxRecDepth 20000
set_option maxHeartbeats 1000000 in
theorem private9_any (s : ByteArray) (i : Nat) (hi : i < 200) (hs : Hid (s.size + 64 ≤ 140737488355328)) (w : World) (hK : Hid (Kh w)) :
    Calls Tryz.prog 14 #[.string s, .int .i64 (i : Int)] w fun e w' => e = .returned (.string (pv s i)) ∧ Below w.heap.size w w' := by
  obtain ⟨Lb, hLb⟩ : ∃ L : ByteArray, ⟨(pvL i).toArray⟩ = L := ⟨_, rfl⟩
  have DV : Hid (∀ w, Kh w → Calls Tryz.prog 27 #[.string s, .string Lb, .int .i64 32] w fun e w' => e = .returned (.tuple #[.string (pv s i), .int .i64 0]) ∧ Below w.heap.size w w') := fun w h => by
    have := derive_c s Lb 32 w hs (by rw [← hLb]; show (8 : Nat) + 97 ≤ _; decide) h
    unfold drV at this
    rw [if_neg (by decide)] at this
    rw [← hLb] at this ⊢
    exact this
  generalize pv s i = X at *
  obtain ⟨b, hb⟩ : ∃ b, UInt8.ofNat (48 + i) = b := ⟨_, rfl⟩
  have bn : (b.toNat : Int) = 48 + (i : Int) := by rw [← hb, UInt8.toNat_ofNat']; omega
  have t1 : IntKind.i64.wrap (48 + (i : Int)) = 48 + (i : Int) := by rw [IntKind.wrap_i64]; omega
  have t2 : IntKind.u8.wrap (48 + (i : Int)) = 48 + (i : Int) := by rw [IntKind.wrap_u8]; omega
  have t3 : (48 + (i : Int)) % 256 = 48 + (i : Int) := by omega
  obtain ⟨W, hW⟩ : ∃ W, w.alloc (.cells #[.int .u8 (48 + (i : Int))] 5) = W := ⟨_, rfl⟩
  have CB : (convert 43 9 (.slice (some ⟨w.heap.size, 0, none⟩) 1 1)).run Tryz.prog W = .ok (.string ⟨[b].toArray⟩) W := by
    have h : BytesAt W w.heap.size [b] := fun j hj => by
      obtain rfl : j = 0 := by simp at hj; omega
      rw [← hW]
      exact ⟨by rw [World.cell?_alloc_new]; simp [bn], by simp [go_sem]⟩
    exact h.string rfl
  have AD : ∀ w, (Op.stringOp .add ⟨#[112, 114, 105, 118, 97, 116, 101]⟩ ⟨[b].toArray⟩).run Tryz.prog w = .ok (.string Lb) w := fun w => by
    have e : (⟨#[112, 114, 105, 118, 97, 116, 101]⟩ : ByteArray) ++ ⟨[b].toArray⟩ = Lb := by
      rw [← hLb, ← hb]
      apply ByteArray.ext
      simp [pvL]
    rw [← e]
    exact run_string_add_sum _ _ _ (by show (7 : Nat) + 1 ≤ _; decide)
  have BW : Hid (Below w.heap.size w W ∧ Kh W) := by
    rw [← hW]
    exact ⟨(Below.refl _ _).alloc (Nat.le_refl _) _, hK.out.alloc _⟩
  clear hb bn hLb
  go_enter Tryz.func14, Tryz.ntmps14
  go_wp2_with fail
  refine Calls.mono (DV.out _ BW.out.2) ?_
  rintro e w1 ⟨rfl, hb1⟩
  have B1 : Hid (Below w.heap.size w w1) := chain BW.out.1 hb1
  clear hb1 DV
  go_wp2
  go_ret
  exact ⟨rfl, B1.out⟩
set_option maxHeartbeats 1000000 in
theorem public9_any (s : ByteArray) (i : Nat) (hi : i < 200) (hs : Hid (s.size + 64 ≤ 140737488355328)) (w : World) (hK : Hid (Kh w)) :
    Calls Tryz.prog 15 #[.string s, .int .i64 (i : Int)] w fun e w' => e = .returned (.string (pp s i)) ∧ Below w.heap.size w w' := by
  have P1 : Hid (∀ w, Kh w → Calls Tryz.prog 14 #[.string s, .int .i64 (i : Int)] w fun e w' => e = .returned (.string (pv s i)) ∧ Below w.heap.size w w') := fun w h => private9_any s i hi hs w h
  have P2 : Hid (∀ w, Calls Tryz.prog 28 #[.string (pv s i)] w fun e w' => e = .returned (.tuple #[.string (pp s i), .int .i64 0]) ∧ Below w.heap.size w w') := fun w => Crv.Public_ok (pv s i) (pv_size s i) w
  generalize pp s i = X at *
  generalize pv s i = Y at *
  go_enter Tryz.func15, Tryz.ntmps15
  go_wp2_with fail
  refine Calls.mono (P1.out _ hK.out) ?_
  rintro e w1 ⟨rfl, hb1⟩
  have B1 : Hid (Below w.heap.size w w1) := hb1
  clear hb1 P1
  go_wp2_with fail
  refine Calls.mono (P2.out _) ?_
  rintro e w2 ⟨rfl, hb2⟩
  have B2 : Hid (Below w.heap.size w w2) := chain B1.out hb2
  clear hb2 P2
  go_wp2
  go_ret
  exact ⟨rfl, B2.out⟩
def pmE (seed : ByteArray) (pts : List ByteArray) (t : ByteArray) (hs : List Hp) : Int := if mkE seed pts hs = 0 then (if t.size ≤ 222 then 0 else 2) else mkE seed pts hs
def pmB (seed : ByteArray) (pts : List ByteArray) (t : ByteArray) (hs : List Hp) : ByteArray := if pmE seed pts t hs = 0 then ⟨((mkH seed pts hs).data.toList ++ pld (mkS seed pts hs) t.data.toList).toArray⟩ else ⟨#[]⟩
theorem pm_no (seed : ByteArray) (pts : List ByteArray) (t : ByteArray) (hs : List Hp) (h : ¬ mkE seed pts hs = 0) : pmE seed pts t hs = mkE seed pts hs ∧ pmB seed pts t hs = ⟨#[]⟩ := by
  have e : pmE seed pts t hs = mkE seed pts hs := if_neg h
  exact ⟨e, if_neg (by rw [e]; exact h)⟩
theorem pm_long (seed : ByteArray) (pts : List ByteArray) (t : ByteArray) (hs : List Hp) (h : mkE seed pts hs = 0) (ht : 222 < t.size) : pmE seed pts t hs = 2 ∧ pmB seed pts t hs = ⟨#[]⟩ := by
  have e : pmE seed pts t hs = 2 := by unfold pmE; rw [if_pos h, if_neg (by omega)]
  exact ⟨e, if_neg (by rw [e]; decide)⟩
theorem pm_ok (seed : ByteArray) (pts : List ByteArray) (t : ByteArray) (hs : List Hp) (h : mkE seed pts hs = 0) (ht : t.size ≤ 222) : pmE seed pts t hs = 0 ∧ pmB seed pts t hs = ⟨((mkH seed pts hs).data.toList ++ pld (mkS seed pts hs) t.data.toList).toArray⟩ := by
  have e : pmE seed pts t hs = 0 := by unfold pmE; rw [if_pos h, if_pos ht]
  exact ⟨e, if_pos e⟩
def PMakeC : Prop := ∀ (seed : ByteArray) (a : Option Addr) (pts : List ByteArray) (n cap : Nat) (t : ByteArray) (b : Option Addr) (hs : List Hp) (m cap2 : Nat) (w : World), Hid (pts.length = n ∧ hs.length = m) → Hid (n * 16 ≤ 140737488351232 ∧ m * 48 ≤ 140737488351232) →
    Hid (seed.size + 64 ≤ 140737488355328) → Hid (∀ p ∈ pts, p.size ≤ 140737488355328) → Hid (∀ h ∈ hs, h.id.size ≤ 140737488355328) → Hid (t.size ≤ 140737488355328) → Hid (Kh w) → Hid (StrAt w a pts) → Hid (HopsAt w b hs) →
    Calls Tryz.prog 8 #[.string seed, .slice a n cap, .string t, .slice b m cap2] w fun e w' => e = .returned (.tuple #[.string (pmB seed pts t hs), .int .i64 (pmE seed pts t hs)]) ∧ Below w.heap.size w w'
def PPeelC : Prop := ∀ (p b : ByteArray) (w : World), Hid (p.size ≤ 140737488355328) → Hid (b.size ≤ 140737488355328) → Hid (Kh w) →
    Calls Tryz.prog 12 #[.string p, .string b] w fun e w' => e = .returned (.tuple (ppV p b)) ∧ Below w.heap.size w w'
theorem pack_made (seed : ByteArray) (ks : List ByteArray) (hs : List Hp) (t : ByteArray) (hz : seed.size = 32) (hk : ∀ k ∈ ks, k.size = 32) (hp : pth hs = 0) (hl : hs.length = ks.length) (ht : t.size ≤ 222) :
    ∃ ss : List ByteArray, ss.length = ks.length ∧ pmE seed (ks.map fun k => Crv.ek (Crv.pub k)) t hs = 0 ∧ pmB seed (ks.map fun k => Crv.ek (Crv.pub k)) t hs = pkt seed ss hs t.data.toList 0
      ∧ ∀ i (hi : i < ks.length), (pkt seed ss hs t.data.toList i).size = 504 ∧ ppV ks[i] (pkt seed ss hs t.data.toList i) =
        if i + 1 < ks.length then #[pdv (hs.getD i zh) (pkt seed ss hs t.data.toList (i + 1)) (rtg (nth ss i)) ⟨#[]⟩, .int .i64 0]
        else #[pdv (hs.getD i zh) ⟨#[]⟩ (rtg (nth ss i)) t, .int .i64 0] := by
  obtain ⟨ss, s1, s2, s3, s4, s5⟩ := pack_step seed ks hs hz hk hp hl
  have lt : t.data.toList.length ≤ 222 := by rw [list_sz]; exact ht
  refine ⟨ss, s1, (pm_ok _ _ _ _ s2 ht).1, ?_, fun i hi => ?_⟩
  · rw [(pm_ok _ _ _ _ s2 ht).2, s3, s4]
    unfold pkt
    rw [List.drop_zero]
  · obtain ⟨p1, p2⟩ := s5 i hi
    have hd : ss.drop i = nth ss i :: ss.drop (i + 1) := by
      unfold nth
      rw [List.getD_eq_getElem?_getD, List.getElem?_eq_getElem (by omega)]
      exact List.drop_eq_getElem_cons (by omega)
    refine ⟨by unfold pkt; rw [ba_sz, List.length_append, p1, pld_len _ _ lt], ?_⟩
    have := p2 (pld (ss.drop i) t.data.toList) (pld_len _ _ lt)
    unfold pkt
    rw [this, hd, pld_open _ _ _ lt]
    by_cases hlast : i + 1 < ks.length
    · rw [if_pos hlast, if_pos hlast]
    · rw [if_neg hlast, if_neg hlast, List.drop_of_length_le (by omega), pld_text _ lt]
end Go.Proofs.YtgnkkjknngblbaaGreatDoor
