/- What store of package field does. -/
import Derived.Test.YtdebfelgaiofeaaW9
import Derived.Test.YtdebfelgaiofeaaH2
import Derived.Test.YtdebfelgaiofeaaMA
import Derived.Laws.IdiomStrings
namespace Go.Proofs.Ytdebfelgaiofeaa
open Go.RowKit Go.Proofs.Fd

theorem byte_cell (x k : Nat) : some (Value.int .u8 ((x : Int) / (k : Int) % 256)) = some (.int .u8 ((UInt8.ofNat (x / k % 256)).toNat : Int)) := by
  have : (UInt8.ofNat (x / k % 256)).toNat = x / k % 256 := by simp
  rw [this]; rfl

theorem byte_cell0 (x : Nat) : some (Value.int .u8 ((x : Int) % 256)) = some (.int .u8 ((UInt8.ofNat (x % 256)).toNat : Int)) := by
  have : (UInt8.ofNat (x % 256)).toNat = x % 256 := by simp
  rw [this]; rfl

theorem conv_back (b : Nat) (l : List UInt8) (hl : l.length = 32) (W : World) (hc : ∀ j (hj : j < l.length), W.cell? ⟨b, j, none⟩ = some (.int .u8 (l[j].toNat : Int))) :
    (convert 34 9 (.slice (some ⟨b, 0, none⟩) 32 32)).run Try.prog W = .ok (.string ⟨l.toArray⟩) W := by
  have := run_convert_bytes_back (P := Try.prog) W 34 9 5 ⟨b, 0, none⟩ 32 l Try.underlying34 Try.underlying5 Try.underlying9 (fun j hj => by
    have q : Addr.add ⟨b, 0, none⟩ j = ⟨b, j, none⟩ := by simp [Addr.add]; intro h; exact h.symm
    rw [q]; exact hc j hj)
  rw [hl] at this
  exact this

theorem bytes_at (a0 a1 a2 a3 j : Nat) (hj : j < (b8 a0 ++ (b8 a1 ++ (b8 a2 ++ b8 a3))).length) :
    (#[.int .u8 ((a0 : Int) % 256), .int .u8 ((a0 : Int) / 256 % 256), .int .u8 ((a0 : Int) / 65536 % 256), .int .u8 ((a0 : Int) / 16777216 % 256), .int .u8 ((a0 : Int) / 4294967296 % 256), .int .u8 ((a0 : Int) / 1099511627776 % 256), .int .u8 ((a0 : Int) / 281474976710656 % 256), .int .u8 ((a0 : Int) / 72057594037927936 % 256), .int .u8 ((a1 : Int) % 256), .int .u8 ((a1 : Int) / 256 % 256), .int .u8 ((a1 : Int) / 65536 % 256), .int .u8 ((a1 : Int) / 16777216 % 256), .int .u8 ((a1 : Int) / 4294967296 % 256), .int .u8 ((a1 : Int) / 1099511627776 % 256), .int .u8 ((a1 : Int) / 281474976710656 % 256), .int .u8 ((a1 : Int) / 72057594037927936 % 256), .int .u8 ((a2 : Int) % 256), .int .u8 ((a2 : Int) / 256 % 256), .int .u8 ((a2 : Int) / 65536 % 256), .int .u8 ((a2 : Int) / 16777216 % 256), .int .u8 ((a2 : Int) / 4294967296 % 256), .int .u8 ((a2 : Int) / 1099511627776 % 256), .int .u8 ((a2 : Int) / 281474976710656 % 256), .int .u8 ((a2 : Int) / 72057594037927936 % 256), .int .u8 ((a3 : Int) % 256), .int .u8 ((a3 : Int) / 256 % 256), .int .u8 ((a3 : Int) / 65536 % 256), .int .u8 ((a3 : Int) / 16777216 % 256), .int .u8 ((a3 : Int) / 4294967296 % 256), .int .u8 ((a3 : Int) / 1099511627776 % 256), .int .u8 ((a3 : Int) / 281474976710656 % 256), .int .u8 ((a3 : Int) / 72057594037927936 % 256)] : Array Value)[j]? = some (.int .u8 (((b8 a0 ++ (b8 a1 ++ (b8 a2 ++ b8 a3)))[j]'hj).toNat : Int)) := by
  have hj' : j < 32 := hj
  match j, hj' with
  | 0, _ => exact byte_cell0 a0
  | 1, _ => exact byte_cell a0 256
  | 2, _ => exact byte_cell a0 65536
  | 3, _ => exact byte_cell a0 16777216
  | 4, _ => exact byte_cell a0 4294967296
  | 5, _ => exact byte_cell a0 1099511627776
  | 6, _ => exact byte_cell a0 281474976710656
  | 7, _ => exact byte_cell a0 72057594037927936
  | 8, _ => exact byte_cell0 a1
  | 9, _ => exact byte_cell a1 256
  | 10, _ => exact byte_cell a1 65536
  | 11, _ => exact byte_cell a1 16777216
  | 12, _ => exact byte_cell a1 4294967296
  | 13, _ => exact byte_cell a1 1099511627776
  | 14, _ => exact byte_cell a1 281474976710656
  | 15, _ => exact byte_cell a1 72057594037927936
  | 16, _ => exact byte_cell0 a2
  | 17, _ => exact byte_cell a2 256
  | 18, _ => exact byte_cell a2 65536
  | 19, _ => exact byte_cell a2 16777216
  | 20, _ => exact byte_cell a2 4294967296
  | 21, _ => exact byte_cell a2 1099511627776
  | 22, _ => exact byte_cell a2 281474976710656
  | 23, _ => exact byte_cell a2 72057594037927936
  | 24, _ => exact byte_cell0 a3
  | 25, _ => exact byte_cell a3 256
  | 26, _ => exact byte_cell a3 65536
  | 27, _ => exact byte_cell a3 16777216
  | 28, _ => exact byte_cell a3 4294967296
  | 29, _ => exact byte_cell a3 1099511627776
  | 30, _ => exact byte_cell a3 281474976710656
  | 31, _ => exact byte_cell a3 72057594037927936
  | n + 32, h => omega

set_option maxHeartbeats 4000000 in
theorem store_any (a0 a1 a2 a3 : Nat) (ha : Hid (u4 a0 a1 a2 a3)) (w : World) :
    Calls Try.prog 45 #[.agg #[.int .u64 a0, .int .u64 a1, .int .u64 a2, .int .u64 a3]] w fun e w' => e = .returned (.string ⟨(byts 32 (v4 a0 a1 a2 a3)).toArray⟩) ∧ Below w.heap.size w w' := by
  have ia0 : ∀ w, (Instr.index 51 (.agg #[.int .u64 a0, .int .u64 a1, .int .u64 a2, .int .u64 a3]) (.int .i64 0)).run Try.prog w = .ok (.int .u64 a0) w := fun _ => by kernel_rfl
  have ia1 : ∀ w, (Instr.index 51 (.agg #[.int .u64 a0, .int .u64 a1, .int .u64 a2, .int .u64 a3]) (.int .i64 1)).run Try.prog w = .ok (.int .u64 a1) w := fun _ => by kernel_rfl
  have ia2 : ∀ w, (Instr.index 51 (.agg #[.int .u64 a0, .int .u64 a1, .int .u64 a2, .int .u64 a3]) (.int .i64 2)).run Try.prog w = .ok (.int .u64 a2) w := fun _ => by kernel_rfl
  have ia3 : ∀ w, (Instr.index 51 (.agg #[.int .u64 a0, .int .u64 a1, .int .u64 a2, .int .u64 a3]) (.int .i64 3)).run Try.prog w = .ok (.int .u64 a3) w := fun _ => by kernel_rfl
  have hmk : ∀ w : World, (Instr.makeSlice 34 (.int .i64 0) (.int .i64 32)).run Try.prog w = .ok (.slice (some ⟨w.heap.size, 0, none⟩) 0 32) (w.alloc (.cells #[.int .u8 0, .int .u8 0, .int .u8 0, .int .u8 0, .int .u8 0, .int .u8 0, .int .u8 0, .int .u8 0, .int .u8 0, .int .u8 0, .int .u8 0, .int .u8 0, .int .u8 0, .int .u8 0, .int .u8 0, .int .u8 0, .int .u8 0, .int .u8 0, .int .u8 0, .int .u8 0, .int .u8 0, .int .u8 0, .int .u8 0, .int .u8 0, .int .u8 0, .int .u8 0, .int .u8 0, .int .u8 0, .int .u8 0, .int .u8 0, .int .u8 0, .int .u8 0] 5)) := fun _ => by kernel_rfl
  go_enter Try.func45, Try.ntmps45
  go_wp2
  refine wp_loop_rounds 5 ?_
  rw [rounds_succ]
  go_wp2
  rw [rounds_succ]
  go_wp2
  rw [rounds_succ]
  go_wp2
  rw [rounds_succ]
  go_wp2
  rw [rounds_succ]
  go_wp2
  rw [conv_back (w.heap.size + 1) (b8 a0 ++ (b8 a1 ++ (b8 a2 ++ b8 a3))) rfl _ ?hc]
  case hc =>
    intro j hj
    refine cell_alloc (cell_alloc (cell_alloc (cell_alloc ?_)))
    rw [show w.heap.size + 1 = (w.alloc (.cells #[.int .u64 a0, .int .u64 a1, .int .u64 a2, .int .u64 a3] 51)).heap.size by simp, World.cell?_alloc_new]
    exact bytes_at a0 a1 a2 a3 j hj
  go_wp2
  go_ret
  refine ⟨by rw [byts32 _ _ _ _ ha.out]; rfl, ?_⟩
  repeat (first | refine Below.setCell ?_ (by simp; try omega) _ | refine Below.drew ?_ | refine Below.alloc ?_ (by simp; try omega) _ | exact Below.refl _ _)

end Go.Proofs.Ytdebfelgaiofeaa
