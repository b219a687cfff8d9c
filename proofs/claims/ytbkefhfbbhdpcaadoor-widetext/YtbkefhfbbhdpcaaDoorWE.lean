/- What the program's wide layer answers, as contracts; the example. -/
import Derived.Test.YtbkefhfbbhdpcaaDoorGW
import Derived.Test.YtbkefhfbbhdpcaaDoorWR1
import Derived.Test.YtbkefhfbbhdpcaaDoorWRp
import Derived.Test.YtbkefhfbbhdpcaaDoorK8
namespace Go.Proofs.YtbkefhfbbhdpcaaDoor
open Go.RowKit Go.Proofs.Fd Go.Proofs.Hs Go.Proofs.Cc Go.Proofs.Wd
set_option maxRecDepth 20000

/-- What is answered. -/
def shV (k b : ByteArray) : Array Value := if wmay (b.size : Int) = 0 then #[.string ⟨(shutl k.data.toList b.data.toList).toArray⟩, .int .i64 0] else #[.string ⟨#[]⟩, .int .i64 (wmay (b.size : Int))]
def opV (k b : ByteArray) : Array Value := if wmay (b.size : Int) = 0 then #[.string ⟨(openl k.data.toList b.data.toList).toArray⟩, .int .i64 0] else #[.string ⟨#[]⟩, .int .i64 (wmay (b.size : Int))]
def wrV (k t : ByteArray) (n : Int) : Array Value :=
  if wmay n = 0 then (if n - 34 < (t.size : Int) then #[.string ⟨#[]⟩, .int .i64 2] else #[.string ⟨(shutl k.data.toList (plainl t.data.toList n.toNat)).toArray⟩, .int .i64 0]) else #[.string ⟨#[]⟩, .int .i64 (wmay n)]
def uwV (k b : ByteArray) : Array Value :=
  if wmay (b.size : Int) = 0 then (match textl (openl k.data.toList b.data.toList) with
    | some t => #[.string ⟨t.toArray⟩, .int .i64 0]
    | none => #[.string ⟨#[]⟩, .int .i64 90]) else #[.string ⟨#[]⟩, .int .i64 (wmay (b.size : Int))]
theorem shV_ok (k b : ByteArray) (h0 : 64 ≤ b.size) (h1 : b.size ≤ 8192) : shV k b = #[.string ⟨(shutl k.data.toList b.data.toList).toArray⟩, .int .i64 0] := by unfold shV; rw [if_pos (wmay_ok _ (by omega) (by omega))]
theorem opV_ok (k b : ByteArray) (h0 : 64 ≤ b.size) (h1 : b.size ≤ 8192) : opV k b = #[.string ⟨(openl k.data.toList b.data.toList).toArray⟩, .int .i64 0] := by unfold opV; rw [if_pos (wmay_ok _ (by omega) (by omega))]
theorem shV_no (k b : ByteArray) (h : wmay (b.size : Int) ≠ 0) : shV k b = #[.string ⟨#[]⟩, .int .i64 (wmay (b.size : Int))] := by unfold shV; rw [if_neg h]
theorem opV_no (k b : ByteArray) (h : wmay (b.size : Int) ≠ 0) : opV k b = #[.string ⟨#[]⟩, .int .i64 (wmay (b.size : Int))] := by unfold opV; rw [if_neg h]
theorem wrV_ok (k t : ByteArray) (n : Nat) (h0 : 64 ≤ n) (h1 : n ≤ 8192) (ht : t.size + 34 ≤ n) : wrV k t (n : Int) = #[.string ⟨(shutl k.data.toList (plainl t.data.toList n)).toArray⟩, .int .i64 0] := by
  unfold wrV; rw [if_pos (wmay_ok _ (by omega) (by omega)), if_neg (by omega), Int.toNat_natCast]
theorem uwV_some (k b : ByteArray) (t : List UInt8) (h0 : 64 ≤ b.size) (h1 : b.size ≤ 8192) (h : textl (openl k.data.toList b.data.toList) = some t) : uwV k b = #[.string ⟨t.toArray⟩, .int .i64 0] := by
  unfold uwV; rw [if_pos (wmay_ok _ (by omega) (by omega)), h]
theorem uwV_none (k b : ByteArray) (h0 : 64 ≤ b.size) (h1 : b.size ≤ 8192) (h : textl (openl k.data.toList b.data.toList) = none) : uwV k b = #[.string ⟨#[]⟩, .int .i64 90] := by
  unfold uwV; rw [if_pos (wmay_ok _ (by omega) (by omega)), h]
theorem shV_form (k b : ByteArray) : ∃ (X : ByteArray) (e : Int), shV k b = #[.string X, .int .i64 e] := by
  unfold shV; split <;> exact ⟨_, _, rfl⟩
theorem opV_form (k b : ByteArray) : ∃ (X : ByteArray) (e : Int), opV k b = #[.string X, .int .i64 e] := by
  unfold opV; split <;> exact ⟨_, _, rfl⟩
theorem wrV_form (k t : ByteArray) (n : Int) : ∃ (X : ByteArray) (e : Int), wrV k t n = #[.string X, .int .i64 e] := by
  unfold wrV; split
  · split <;> exact ⟨_, _, rfl⟩
  · exact ⟨_, _, rfl⟩
theorem uwV_form (k b : ByteArray) : ∃ (X : ByteArray) (e : Int), uwV k b = #[.string X, .int .i64 e] := by
  unfold uwV; split
  · split <;> exact ⟨_, _, rfl⟩
  · exact ⟨_, _, rfl⟩
/-- Contracts of the layer. -/
def ShutC : Prop := ∀ (k b : ByteArray) (w : World), Hid (k.size + 64 ≤ 140737488355328) → Hid (b.size ≤ 140737488355328) → Hid (Kh w) →
    Calls Tryd.prog 9 #[.string k, .string b] w fun e w' => e = .returned (.tuple (shV k b)) ∧ Below w.heap.size w w'
def OpenC : Prop := ∀ (k b : ByteArray) (w : World), Hid (k.size + 64 ≤ 140737488355328) → Hid (b.size ≤ 140737488355328) → Hid (Kh w) →
    Calls Tryd.prog 11 #[.string k, .string b] w fun e w' => e = .returned (.tuple (opV k b)) ∧ Below w.heap.size w w'
def WrapC : Prop := ∀ (k t : ByteArray) (n : Int) (w : World), Hid (k.size + 64 ≤ 140737488355328) → Hid (t.size ≤ 140737488355328) → Hid (Kh w) →
    Calls Tryd.prog 14 #[.string k, .string t, .int .i64 n] w fun e w' => e = .returned (.tuple (wrV k t n)) ∧ Below w.heap.size w w'
def UnwrapC : Prop := ∀ (k b : ByteArray) (w : World), Hid (k.size + 64 ≤ 140737488355328) → Hid (b.size ≤ 140737488355328) → Hid (Kh w) →
    Calls Tryd.prog 16 #[.string k, .string b] w fun e w' => e = .returned (.tuple (uwV k b)) ∧ Below w.heap.size w w'

set_option maxHeartbeats 1000000 in
theorem works6_any (CW : Hid WrapC) (CU : Hid UnwrapC) (w : World) (hk : Hid (Kh w)) :
    Calls Tryd.prog 13 #[] w fun e w' => e = .returned (.bool true) ∧ Below w.heap.size w w' := by
  obtain ⟨B, hB⟩ : ∃ B : ByteArray, ⟨(shutl [107] (plainl [104, 101, 108, 108, 111] 100)).toArray⟩ = B := ⟨_, rfl⟩
  have sB : B.size = 100 := by rw [← hB, ba_sz, shutl_len _ _ (by rw [plainl_len _ _ (by decide)]; decide), plainl_len _ _ (by decide)]
  have dB : B.data.toList = shutl [107] (plainl [104, 101, 108, 108, 111] 100) := by rw [← hB]
  have W1 : Hid (∀ w, Kh w → Calls Tryd.prog 14 #[.string ⟨#[107]⟩, .string ⟨#[104, 101, 108, 108, 111]⟩, .int .i64 100] w fun e w' => e = .returned (.tuple #[.string B, .int .i64 0]) ∧ Below w.heap.size w w') := fun w h => by
    have := CW.out ⟨#[107]⟩ ⟨#[104, 101, 108, 108, 111]⟩ 100 w (by show (1 : Nat) + 64 ≤ _; decide) (by show (5 : Nat) ≤ _; decide) h
    have e := wrV_ok ⟨#[107]⟩ ⟨#[104, 101, 108, 108, 111]⟩ 100 (by decide) (by decide) (by show (5 : Nat) + 34 ≤ 100; decide)
    rw [show ((100 : Nat) : Int) = 100 from rfl] at e
    rw [e, show (⟨#[107]⟩ : ByteArray).data.toList = [107] from rfl, show (⟨#[104, 101, 108, 108, 111]⟩ : ByteArray).data.toList = [104, 101, 108, 108, 111] from rfl, hB] at this
    exact this
  have U1 : Hid (∀ w, Kh w → Calls Tryd.prog 16 #[.string ⟨#[107]⟩, .string B] w fun e w' => e = .returned (.tuple #[.string ⟨#[104, 101, 108, 108, 111]⟩, .int .i64 0]) ∧ Below w.heap.size w w') := fun w h => by
    have := CU.out ⟨#[107]⟩ B w (by show (1 : Nat) + 64 ≤ _; decide) (by show B.size ≤ _; omega) h
    rw [uwV_some ⟨#[107]⟩ B [104, 101, 108, 108, 111] (by omega) (by omega) (by
      rw [dB]
      show textl (openl [107] (shutl [107] (plainl [104, 101, 108, 108, 111] 100))) = _
      rw [open_shut _ _ (by rw [plainl_len _ _ (by decide)]; decide), text_plain _ _ (by decide) (by decide)])] at this
    exact this
  have U2 : Hid (∀ w, Kh w → Calls Tryd.prog 16 #[.string ⟨#[108]⟩, .string B] w fun e w' => e = .returned (.tuple #[.string ⟨#[]⟩, .int .i64 90]) ∧ Below w.heap.size w w') := fun w h => by
    have := CU.out ⟨#[108]⟩ B w (by show (1 : Nat) + 64 ≤ _; decide) (by show B.size ≤ _; omega) h
    rw [uwV_none ⟨#[108]⟩ B (by omega) (by omega) (by
      rw [dB]
      exact ex_wide)] at this
    exact this
  clear hB dB CW CU
  have sBi : (B.size : Int) = 100 := by omega
  go_enter Tryd.func13, Tryd.ntmps13
  go_wp2_with fail
  refine Calls.mono (W1.out _ hk.out) ?_
  rintro e w1 ⟨rfl, hb⟩
  have B1 : Hid (Below w.heap.size w w1 ∧ Kh w1) := ⟨hb, hk.out.later hb⟩
  clear hb W1
  go_wp2_with fail
  refine Calls.mono (U1.out _ B1.out.2) ?_
  rintro e w2 ⟨rfl, hb⟩
  have B2 : Hid (Below w.heap.size w w2 ∧ Kh w2) := ⟨chain B1.out.1 hb, B1.out.2.later hb⟩
  clear hb U1 B1
  go_wp2_with fail
  refine Calls.mono (U2.out _ B2.out.2) ?_
  rintro e w3 ⟨rfl, hb⟩
  have B3 : Hid (Below w.heap.size w w3) := chain B2.out.1 hb
  clear hb U2 B2
  go_wp2
  go_ret
  exact ⟨rfl, B3.out⟩
end Go.Proofs.YtbkefhfbbhdpcaaDoor
