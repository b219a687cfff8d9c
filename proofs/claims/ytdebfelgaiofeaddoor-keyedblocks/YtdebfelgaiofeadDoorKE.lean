/- What the program's keyed layer answers, as contracts; the example; laws that hold by them. -/
import Derived.Test.YtdebfelgaiofeadDoorKD3
namespace Go.Proofs.YtdebfelgaiofeadDoor
open Go.RowKit Go.Proofs.Fd Go.Proofs.Hs

/-- Contracts of the layer. -/
def TagC : Prop := ∀ (key : ByteArray) (a : Option Addr) (ks : List ByteArray) (n cap : Nat) (w : World), Hid (ks.length = n) → Hid (n * 16 + 1024 ≤ 140737488355328) → Hid (key.size ≤ 140737488355328) → Hid (∀ s ∈ ks, s.size ≤ 140737488355328) → Hid (Kh w) → Hid (StrAt w a ks) →
    Calls Tryd.prog 6 #[.string key, .slice a n cap] w fun e w' => e = .returned (.string ⟨(hmac key.data.toList (jnd ks)).toArray⟩) ∧ Below w.heap.size w w'
def SameC : Prop := ∀ (a b : ByteArray) (w : World), Hid (a.size ≤ 140737488355328) → Hid (b.size ≤ 140737488355328) →
    Calls Tryd.prog 9 #[.string a, .string b] w fun e w' => e = .returned (.bool (a.toList == b.toList)) ∧ Below w.heap.size w w'
/-- What an expansion answers. -/
def xpV (k i : ByteArray) (n : Int) : Array Value := if n < 0 ∨ 8160 < n then #[.string ⟨#[]⟩, .int .i64 1] else #[.string ⟨(xpn k.data.toList i.data.toList n.toNat).toArray⟩, .int .i64 0]
def drV (k i : ByteArray) (n : Int) : Array Value := if n < 0 ∨ 8160 < n then #[.string ⟨#[]⟩, .int .i64 1] else #[.string ⟨(drv k.data.toList i.data.toList n.toNat).toArray⟩, .int .i64 0]
def ExpandC : Prop := ∀ (k i : ByteArray) (n : Int) (w : World), Hid (k.size ≤ 140737488355328) → Hid (i.size + 97 ≤ 140737488355328) → Hid (Kh w) →
    Calls Tryd.prog 7 #[.string k, .string i, .int .i64 n] w fun e w' => e = .returned (.tuple (xpV k i n)) ∧ Below w.heap.size w w'
theorem xpV_form (k i : ByteArray) (n : Int) : ∃ (X : ByteArray) (e : Int), xpV k i n = #[.string X, .int .i64 e] := by
  unfold xpV; split
  · exact ⟨_, _, rfl⟩
  · exact ⟨_, _, rfl⟩
theorem drV_form (k i : ByteArray) (n : Int) : ∃ (X : ByteArray) (e : Int), drV k i n = #[.string X, .int .i64 e] := by
  unfold drV; split
  · exact ⟨_, _, rfl⟩
  · exact ⟨_, _, rfl⟩

theorem strAt3 {w : World} {B : Nat} {x y z : ByteArray} (h0 : w.cell? ⟨B, 0, none⟩ = some (.string x)) (h1 : w.cell? ⟨B, 1, none⟩ = some (.string y)) (h2 : w.cell? ⟨B, 2, none⟩ = some (.string z)) : StrAt w (some ⟨B, 0, none⟩) [x, y, z] := fun i hi => by
  refine ⟨B, 0, rfl, ?_⟩
  rcases (by simp at hi; omega : i = 0 ∨ i = 1 ∨ i = 2) with rfl | rfl | rfl
  · exact h0
  · exact h1
  · exact h2
theorem jnd_one (s : ByteArray) : jnd [s] = s.data.toList := by simp [jnd]

theorem ex_tag : (⟨(hxs (hmac [74, 101, 102, 101] [119, 104, 97, 116, 32, 100, 111, 32, 121, 97, 32, 119, 97, 110, 116, 32, 102, 111, 114, 32, 110, 111, 116, 104, 105, 110, 103, 63])).toArray⟩ : ByteArray) = ⟨#[53, 98, 100, 99, 99, 49, 52, 54, 98, 102, 54, 48, 55, 53, 52, 101, 54, 97, 48, 52, 50, 52, 50, 54, 48, 56, 57, 53, 55, 53, 99, 55, 53, 97, 48, 48, 51, 102, 48, 56, 57, 100, 50, 55, 51, 57, 56, 51, 57, 100, 101, 99, 53, 56, 98, 57, 54, 52, 101, 99, 51, 56, 52, 51]⟩ := by decide +kernel

set_option maxHeartbeats 1000000 in
theorem works4_any (CT : Hid TagC) (CS : Hid SameC) (w : World) (hk : Hid (Kh w)) :
    Calls Tryd.prog 5 #[] w fun e w' => e = .returned (.bool true) ∧ Below w.heap.size w w' := by
  have S1 : Hid (∀ (B : Nat) (w : World), Kh w → w.cell? ⟨B, 0, none⟩ = some (.string ⟨#[119, 104, 97, 116, 32, 100, 111, 32, 121, 97, 32, 119, 97, 110, 116, 32]⟩) → w.cell? ⟨B, 1, none⟩ = some (.string ⟨#[102, 111, 114, 32, 110, 111, 116, 104, 105, 110, 103, 63]⟩) → Calls Tryd.prog 6 #[.string ⟨#[74, 101, 102, 101]⟩, .slice (some ⟨B, 0, none⟩) 2 2] w fun e w' => e = .returned (.string ⟨(hmac [74, 101, 102, 101] [119, 104, 97, 116, 32, 100, 111, 32, 121, 97, 32, 119, 97, 110, 116, 32, 102, 111, 114, 32, 110, 111, 116, 104, 105, 110, 103, 63]).toArray⟩) ∧ Below w.heap.size w w') := fun B w h h0 h1 => CT.out ⟨#[74, 101, 102, 101]⟩ (some ⟨B, 0, none⟩) [⟨#[119, 104, 97, 116, 32, 100, 111, 32, 121, 97, 32, 119, 97, 110, 116, 32]⟩, ⟨#[102, 111, 114, 32, 110, 111, 116, 104, 105, 110, 103, 63]⟩] 2 2 w rfl (by show _ ≤ _; decide) (by show (4 : Nat) ≤ _; decide) (fun s hs => by simp at hs; rcases hs with rfl | rfl <;> decide) h (strAt2 h0 h1)
  have H1 : Hid (∀ w, Calls Tryd.prog 8 #[.string ⟨(hmac [74, 101, 102, 101] [119, 104, 97, 116, 32, 100, 111, 32, 121, 97, 32, 119, 97, 110, 116, 32, 102, 111, 114, 32, 110, 111, 116, 104, 105, 110, 103, 63]).toArray⟩] w fun e w' => e = .returned (.string ⟨#[53, 98, 100, 99, 99, 49, 52, 54, 98, 102, 54, 48, 55, 53, 52, 101, 54, 97, 48, 52, 50, 52, 50, 54, 48, 56, 57, 53, 55, 53, 99, 55, 53, 97, 48, 48, 51, 102, 48, 56, 57, 100, 50, 55, 51, 57, 56, 51, 57, 100, 101, 99, 53, 56, 98, 57, 54, 52, 101, 99, 51, 56, 52, 51]⟩) ∧ Below w.heap.size w w') := fun w => by
    have h := Hex_any ⟨(hmac [74, 101, 102, 101] [119, 104, 97, 116, 32, 100, 111, 32, 121, 97, 32, 119, 97, 110, 116, 32, 102, 111, 114, 32, 110, 111, 116, 104, 105, 110, 103, 63]).toArray⟩ (by rw [ba_size, hmac_len]; decide) w
    rw [show (⟨(hmac [74, 101, 102, 101] [119, 104, 97, 116, 32, 100, 111, 32, 121, 97, 32, 119, 97, 110, 116, 32, 102, 111, 114, 32, 110, 111, 116, 104, 105, 110, 103, 63]).toArray⟩ : ByteArray).data.toList = hmac [74, 101, 102, 101] [119, 104, 97, 116, 32, 100, 111, 32, 121, 97, 32, 119, 97, 110, 116, 32, 102, 111, 114, 32, 110, 111, 116, 104, 105, 110, 103, 63] from rfl, ex_tag] at h
    exact h
  have Q1 : Hid (∀ w, Calls Tryd.prog 9 #[.string ⟨#[120]⟩, .string ⟨#[120]⟩] w fun e w' => e = .returned (.bool true) ∧ Below w.heap.size w w') := fun w => by
    have h := CS.out ⟨#[120]⟩ ⟨#[120]⟩ w (by show (1 : Nat) ≤ _; decide) (by show (1 : Nat) ≤ _; decide)
    rw [show ((⟨#[120]⟩ : ByteArray).toList == (⟨#[120]⟩ : ByteArray).toList) = true by simp] at h
    exact h
  have Q2 : Hid (∀ w, Calls Tryd.prog 9 #[.string ⟨#[120]⟩, .string ⟨#[120, 121]⟩] w fun e w' => e = .returned (.bool false) ∧ Below w.heap.size w w') := fun w => by
    have h := CS.out ⟨#[120]⟩ ⟨#[120, 121]⟩ w (by show (1 : Nat) ≤ _; decide) (by show (2 : Nat) ≤ _; decide)
    rw [show ((⟨#[120]⟩ : ByteArray).toList == (⟨#[120, 121]⟩ : ByteArray).toList) = false by rw [ByteArray.toList_eq, ByteArray.toList_eq]; rfl] at h
    exact h
  generalize (⟨(hmac [74, 101, 102, 101] [119, 104, 97, 116, 32, 100, 111, 32, 121, 97, 32, 119, 97, 110, 116, 32, 102, 111, 114, 32, 110, 111, 116, 104, 105, 110, 103, 63]).toArray⟩ : ByteArray) = X1 at *
  go_enter Tryd.func5, Tryd.ntmps5
  go_wp2_with fail
  refine Calls.mono (S1.out w.heap.size _ (hk.out.alloc _) (by simp [go_sem]) (by simp [go_sem])) ?_
  rintro e w1 ⟨rfl, hb⟩
  have B1 : Hid (Below w.heap.size w w1 ∧ Kh w1) := ⟨chain ((Below.refl _ _).alloc (Nat.le_refl _) _) hb, (hk.out.alloc _).later hb⟩
  clear hb S1
  go_wp2_with fail
  refine Calls.mono (H1.out _) ?_
  rintro e w2 ⟨rfl, hb⟩
  have B2 : Hid (Below w.heap.size w w2) := chain B1.out.1 hb
  clear hb H1
  go_wp2_with fail
  refine Calls.mono (Q1.out _) ?_
  rintro e w3 ⟨rfl, hb⟩
  have B3 : Hid (Below w.heap.size w w3) := chain B2.out hb
  clear hb Q1
  go_wp2_with fail
  refine Calls.mono (Q2.out _) ?_
  rintro e w4 ⟨rfl, hb⟩
  have B4 : Hid (Below w.heap.size w w4) := chain B3.out hb
  clear hb Q2
  go_wp2
  go_ret
  exact ⟨rfl, B4.out⟩
end Go.Proofs.YtdebfelgaiofeadDoor
