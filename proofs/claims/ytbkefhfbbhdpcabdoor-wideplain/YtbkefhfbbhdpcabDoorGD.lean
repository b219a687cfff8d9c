/- The document's tags and keys; the keyed layer's contracts. -/
import Derived.Test.YtbkefhfbbhdpcabDoorGR
import Derived.Test.YtbkefhfbbhdpcabDoorHM

/- The document's tags. -/
namespace Go.Proofs.YtbkefhfbbhdpcabDoor
open Go.RowKit Go.Proofs.Fd Go.Proofs.Hs
set_option maxRecDepth 20000

theorem zeros64 (w : World) : BytesAt (w.alloc (.cells (Array.replicate 64 (.int .u8 0)) 5)) w.heap.size (List.replicate 64 0) := fun j hj => by
  have hj' : j < 64 := by simpa using hj
  refine ⟨?_, by simp [go_sem]⟩
  rw [World.cell?_alloc_new, List.getElem_replicate, Array.getElem?_replicate, if_pos hj']
  rfl

/-- A key's bytes so far. -/
def xs (c : UInt8) (k : List UInt8) (i : Nat) : List UInt8 := (List.range 64).map fun j => if j < i then k.getD j 0 ^^^ c else 0
theorem xs_len (c : UInt8) (k : List UInt8) (i : Nat) : (xs c k i).length = 64 := by simp [xs]
theorem xs_zero (c : UInt8) (k : List UInt8) : xs c k 0 = List.replicate 64 0 := by
  unfold xs
  rw [List.eq_replicate_iff]
  refine ⟨by simp, fun b hb => ?_⟩
  obtain ⟨j, -, rfl⟩ := List.mem_map.1 hb
  simp
theorem xs_step (c : UInt8) (k : List UInt8) (i : Nat) : (xs c k i).set i (k.getD i 0 ^^^ c) = xs c k (i + 1) := by
  apply List.ext_getElem?
  intro j
  by_cases e : i = j
  · subst e
    by_cases h : i < 64
    · simp [xs, h]
    · simp [xs, h]
  · rw [List.getElem?_set_ne e]
    by_cases h : j < 64
    · have : (j < i) ↔ (j < i + 1) := by omega
      simp [xs, h, this]
    · simp [xs, h]
theorem xs_all (c : UInt8) (k : List UInt8) : xs c k 64 = (k64 k).map fun b => b ^^^ c := by
  unfold xs k64
  rw [List.map_map]
  apply List.map_congr_left
  intro j hj
  have : j < 64 := by simpa using hj
  simp [this]

theorem xor8 (x y : UInt8) : bits BinOp.xor IntKind.u8 (x.toNat : Int) (y.toNat : Int) = ((x ^^^ y).toNat : Int) := by
  have h1 : x.toNat < 2 ^ 8 := x.toNat_lt
  have h2 : y.toNat < 2 ^ 8 := y.toNat_lt
  have h3 : x.toNat ^^^ y.toNat < 2 ^ 8 := Nat.xor_lt_two_pow h1 h2
  rw [UInt8.toNat_xor]
  have e1 : x.toNat % 2 ^ IntKind.u8.bits = x.toNat := Nat.mod_eq_of_lt h1
  have e2 : y.toNat % 2 ^ IntKind.u8.bits = y.toNat := Nat.mod_eq_of_lt h2
  simp only [bits, BitVec.ofInt_natCast, BitVec.toNat_xor, BitVec.toNat_ofNat, e1, e2]
  rw [IntKind.wrap_u8]
  omega

theorem below_other {B : Nat} {w w1 : World} (h : Below B w w1) {b k : Nat} (hb : B ≤ b) (v : Value) : Below B w (w1.setCell ⟨b, k, none⟩ v) := h.setCell (p := ⟨b, k, none⟩) hb v

end Go.Proofs.YtbkefhfbbhdpcabDoor

/- What the document expands. -/
namespace Go.Proofs.YtbkefhfbbhdpcabDoor
open Go.RowKit Go.Proofs.Fd Go.Proofs.Hs
set_option maxRecDepth 20000

theorem ba_size (l : List UInt8) : (⟨l.toArray⟩ : ByteArray).size = l.length := by
  show l.toArray.size = _; simp

end Go.Proofs.YtbkefhfbbhdpcabDoor

/- What the document derives. -/
namespace Go.Proofs.YtbkefhfbbhdpcabDoor
open Go.RowKit Go.Proofs.Fd Go.Proofs.Hs
set_option maxRecDepth 20000

end Go.Proofs.YtbkefhfbbhdpcabDoor

/- What the program's keyed layer answers, as contracts; the example; laws that hold by them. -/
namespace Go.Proofs.YtbkefhfbbhdpcabDoor
open Go.RowKit Go.Proofs.Fd Go.Proofs.Hs
set_option maxRecDepth 20000

/-- Contracts of the layer. -/
def TagC : Prop := ∀ (key : ByteArray) (a : Option Addr) (ks : List ByteArray) (n cap : Nat) (w : World), Hid (ks.length = n) → Hid (n * 16 + 1024 ≤ 140737488355328) → Hid (key.size ≤ 140737488355328) → Hid (∀ s ∈ ks, s.size ≤ 140737488355328) → Hid (Kh w) → Hid (StrAt w a ks) →
    Calls Tryd.prog 23 #[.string key, .slice a n cap] w fun e w' => e = .returned (.string ⟨(hmac key.data.toList (jnd ks)).toArray⟩) ∧ Below w.heap.size w w'
def ExtractC : Prop := ∀ (a b : ByteArray) (w : World), Hid (a.size ≤ 140737488355328) → Hid (b.size ≤ 140737488355328) → Hid (Kh w) →
    Calls Tryd.prog 25 #[.string a, .string b] w fun e w' => e = .returned (.string ⟨(hmac a.data.toList b.data.toList).toArray⟩) ∧ Below w.heap.size w w'
/-- What an expansion answers. -/
def xpV (k i : ByteArray) (n : Int) : Array Value := if n < 0 ∨ 8160 < n then #[.string ⟨#[]⟩, .int .i64 1] else #[.string ⟨(xpn k.data.toList i.data.toList n.toNat).toArray⟩, .int .i64 0]
def drV (k i : ByteArray) (n : Int) : Array Value := if n < 0 ∨ 8160 < n then #[.string ⟨#[]⟩, .int .i64 1] else #[.string ⟨(drv k.data.toList i.data.toList n.toNat).toArray⟩, .int .i64 0]
def ExpandC : Prop := ∀ (k i : ByteArray) (n : Int) (w : World), Hid (k.size ≤ 140737488355328) → Hid (i.size + 97 ≤ 140737488355328) → Hid (Kh w) →
    Calls Tryd.prog 24 #[.string k, .string i, .int .i64 n] w fun e w' => e = .returned (.tuple (xpV k i n)) ∧ Below w.heap.size w w'
def DeriveC : Prop := ∀ (k i : ByteArray) (n : Int) (w : World), Hid (k.size + 64 ≤ 140737488355328) → Hid (i.size + 97 ≤ 140737488355328) → Hid (Kh w) →
    Calls Tryd.prog 18 #[.string k, .string i, .int .i64 n] w fun e w' => e = .returned (.tuple (drV k i n)) ∧ Below w.heap.size w w'
theorem xpV_form (k i : ByteArray) (n : Int) : ∃ (X : ByteArray) (e : Int), xpV k i n = #[.string X, .int .i64 e] := by
  unfold xpV; split
  · exact ⟨_, _, rfl⟩
  · exact ⟨_, _, rfl⟩
theorem drV_form (k i : ByteArray) (n : Int) : ∃ (X : ByteArray) (e : Int), drV k i n = #[.string X, .int .i64 e] := by
  unfold drV; split
  · exact ⟨_, _, rfl⟩
  · exact ⟨_, _, rfl⟩

theorem strAt3 {w : World} {B : Nat} {x y z : ByteArray} (h0 : w.cell? ⟨B, 0, none⟩ = some (.string x)) (h1 : w.cell? ⟨B, 1, none⟩ = some (.string y)) (h2 : w.cell? ⟨B, 2, none⟩ = some (.string z)) : StrAt w (some ⟨B, 0, none⟩) [x, y, z] := fun i hi => by
  refine ⟨B, 0, rfl, ?_⟩
  rcases (by simp at hi; omega : i = 0 ∨ i = 1 ∨ i = 2) with rfl | rfl | rfl
  · exact h0
  · exact h1
  · exact h2
theorem jnd_one (s : ByteArray) : jnd [s] = s.data.toList := by simp [jnd]

theorem ex_tag : (⟨(hxs (hmac [74, 101, 102, 101] [119, 104, 97, 116, 32, 100, 111, 32, 121, 97, 32, 119, 97, 110, 116, 32, 102, 111, 114, 32, 110, 111, 116, 104, 105, 110, 103, 63])).toArray⟩ : ByteArray) = ⟨#[53, 98, 100, 99, 99, 49, 52, 54, 98, 102, 54, 48, 55, 53, 52, 101, 54, 97, 48, 52, 50, 52, 50, 54, 48, 56, 57, 53, 55, 53, 99, 55, 53, 97, 48, 48, 51, 102, 48, 56, 57, 100, 50, 55, 51, 57, 56, 51, 57, 100, 101, 99, 53, 56, 98, 57, 54, 52, 101, 99, 51, 56, 52, 51]⟩ := by decide +kernel

end Go.Proofs.YtbkefhfbbhdpcabDoor
