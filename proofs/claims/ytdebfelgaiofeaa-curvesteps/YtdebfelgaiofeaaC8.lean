/- The chapter's example holds: works answers true. Bytes made 32 long. -/
import Derived.Test.YtdebfelgaiofeaaC6
import Derived.Test.YtdebfelgaiofeaaC7
import Derived.Test.YtdebfelgaiofeaaCC
namespace Go.Proofs.Ytdebfelgaiofeaa
open Go.RowKit Go.Proofs.Fd Go.Proofs.Ed

theorem ex_text : (⟨(hlist ⟨#[52, 50, 50, 99, 56, 101, 55, 97, 54, 50, 50, 55, 100, 55, 98, 99, 97, 49, 51, 53, 48, 98, 51, 101, 50, 98, 98, 55, 50, 55, 57, 102, 55, 56, 57, 55, 98, 56, 55, 98, 98, 54, 56, 53, 52, 98, 55, 56, 51, 99, 54, 48, 101, 56, 48, 51, 49, 49, 97, 101, 51, 48, 55, 57]⟩ 32).toArray⟩ : ByteArray) = ek ex9 := by decide +kernel

theorem ex_tm : tm (enc 9) (enc 9) = ex9 := by
  unfold tm
  rw [num_enc (by decide)]
  have e1 : clampN 9 = 2 ^ 254 + 8 := by decide
  have e2 : ptN 9 = 9 := by decide +kernel
  rw [e1, e2, ex9_lad]

set_option maxHeartbeats 1000000 in
theorem works_any (w : World) :
    Calls Try.prog 13 #[] w fun e w' => e = .returned (.bool true) ∧ Below w.heap.size w w' := by
  have HX : Hid (∀ w, Calls Try.prog 31 #[.string ⟨#[52, 50, 50, 99, 56, 101, 55, 97, 54, 50, 50, 55, 100, 55, 98, 99, 97, 49, 51, 53, 48, 98, 51, 101, 50, 98, 98, 55, 50, 55, 57, 102, 55, 56, 57, 55, 98, 56, 55, 98, 98, 54, 56, 53, 52, 98, 55, 56, 51, 99, 54, 48, 101, 56, 48, 51, 49, 49, 97, 101, 51, 48, 55, 57]⟩] w fun e w' => e = .returned (.string (ek ex9)) ∧ Below w.heap.size w w') := fun w => by
    have h := hex_any ⟨#[52, 50, 50, 99, 56, 101, 55, 97, 54, 50, 50, 55, 100, 55, 98, 99, 97, 49, 51, 53, 48, 98, 51, 101, 50, 98, 98, 55, 50, 55, 57, 102, 55, 56, 57, 55, 98, 56, 55, 98, 98, 54, 56, 53, 52, 98, 55, 56, 51, 99, 54, 48, 101, 56, 48, 51, 49, 49, 97, 101, 51, 48, 55, 57]⟩ rfl w
    rw [ex_text] at h
    exact h
  have SM : Hid (∀ w, Calls Try.prog 30 #[.int .i64 9] w fun e w' => e = .returned (.tuple #[.string (enc 9), .int .i64 0]) ∧ Below w.heap.size w w') := fun w => Small_ok 9 (by omega) w
  have TM : Hid (∀ w, Calls Try.prog 9 #[.string (enc 9), .string (enc 9)] w fun e w' => e = .returned (.tuple #[.string (ek ex9), .int .i64 0]) ∧ Below w.heap.size w w') := fun w => by
    have h := Times_ok (enc 9) (enc 9) (enc_size _) (enc_size _) w
    rw [ex_tm] at h
    exact h
  have hsz : (enc 9).size = 32 := enc_size 9
  generalize ek ex9 = X at *
  go_enter Try.func13, Try.ntmps13
  go_wp2_with fail
  refine Calls.mono (SM.out _) ?_
  rintro e w1 ⟨rfl, hb⟩
  have B1 : Hid (Below w.heap.size w w1) := hb
  clear hb
  go_wp2_with fail
  refine Calls.mono (TM.out _) ?_
  rintro e w2 ⟨rfl, hb⟩
  have B2 : Hid (Below w.heap.size w w2) := chain B1.out hb
  clear hb
  go_wp2_with fail
  refine Calls.mono (HX.out _) ?_
  rintro e w3 ⟨rfl, hb⟩
  have B3 : Hid (Below w.heap.size w w3) := chain B2.out hb
  clear hb
  go_wp2
  go_ret
  exact ⟨rfl, B3.out⟩

/-- Bytes made 32 long. -/
def scal (s : ByteArray) : List UInt8 := s.data.toList.take (Nat.min s.size 32) ++ (List.replicate 32 (0 : UInt8)).drop (Nat.min s.size 32)
def sc (s : ByteArray) : ByteArray := ⟨(scal s).toArray⟩
theorem scal_len (s : ByteArray) : (scal s).length = 32 := by
  unfold scal
  have h : s.data.toList.length = s.size := by simp
  have h1 : Nat.min s.size 32 ≤ s.size := Nat.min_le_left _ _
  have h2 : Nat.min s.size 32 ≤ 32 := Nat.min_le_right _ _
  rw [List.length_append, List.length_take, List.length_drop, List.length_replicate]
  omega
theorem sc_size (s : ByteArray) : (sc s).size = 32 := by show (scal s).toArray.size = 32; simpa using scal_len s

theorem zeros_at (w : World) : BytesAt (w.alloc (.cells (Array.replicate 32 (.int .u8 0)) 5)) w.heap.size (List.replicate 32 0) := fun j hj => by
  have hj' : j < 32 := by simpa using hj
  refine ⟨?_, by simp [go_sem]⟩
  rw [World.cell?_alloc_new, List.getElem_replicate, Array.getElem?_replicate, if_pos hj']
  rfl

set_option maxHeartbeats 400000 in
theorem scalar_any (s : ByteArray) (w : World) :
    Calls Try.prog 20 #[.string s] w fun e w' => e = .returned (.string (sc s)) ∧ Below w.heap.size w w' := by
  have hmk : ∀ w : World, (Instr.makeSlice 34 (.int .i64 32) (.int .i64 32)).run Try.prog w = .ok (.slice (some ⟨w.heap.size, 0, none⟩) 32 32) (w.alloc (.cells (Array.replicate 32 (.int .u8 0)) 5)) := fun _ => by kernel_rfl
  have Z := zeros_at w
  have h2 : Nat.min s.size 32 ≤ 32 := Nat.min_le_right _ _
  have hl : (s.data.toList.take (Nat.min s.size 32)).length = Nat.min s.size 32 := by
    rw [List.length_take]
    have h : s.data.toList.length = s.size := by simp
    have h1 : Nat.min s.size 32 ≤ s.size := Nat.min_le_left _ _
    omega
  have CP := copy_at (w.alloc (.cells (Array.replicate 32 (.int .u8 0)) 5)) w.heap.size 32 32 s _ rfl (fun j hj => by rw [(Z j (by simpa using hj)).1]; rfl) (fun j hj => (Z j (by simpa using hj)).2)
  have Z2 := Z.copied (s.data.toList.take (Nat.min s.size 32)) (by rw [hl]; simpa using h2)
  rw [hl] at Z2
  have CV := Z2.string (cap := 32) (n := 32) (scal_len s)
  have BB : Hid (Below w.heap.size w ((w.alloc (.cells (Array.replicate 32 (.int .u8 0)) 5)).setCells w.heap.size 0 ((s.data.toList.take (Nat.min s.size 32)).map fun x => Value.int .u8 (x.toNat : Int)))) :=
    below_setCells (Nat.le_refl _) _ _ _ ((Below.refl _ _).alloc (Nat.le_refl _) _)
  rw [show (⟨(s.data.toList.take (Nat.min s.size 32) ++ (List.replicate 32 (0 : UInt8)).drop (Nat.min s.size 32)).toArray⟩ : ByteArray) = sc s from rfl] at CV
  clear Z Z2 hl h2
  generalize sc s = r at *
  generalize ((s.data.toList.take (Nat.min s.size 32)).map fun x => Value.int .u8 (x.toNat : Int)) = cs at *
  generalize Nat.min s.size 32 = m at *
  go_enter Try.func20, Try.ntmps20
  go_wp2
  go_ret
  exact ⟨rfl, BB.out⟩
end Go.Proofs.Ytdebfelgaiofeaa
