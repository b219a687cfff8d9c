/- The document's turning, constants and words. -/
import Derived.Test.YtbkefhfbbhdpcabDoorK8
import Derived.Test.YtbkefhfbbhdpcabDoorKT
namespace Go.Proofs.YtbkefhfbbhdpcabDoor
open Go.RowKit Go.Proofs.Fd Go.Proofs.Hs
attribute [local go_sem] and32 or32 xor32 add32 add32'

theorem turn_sum (x : UInt32) (n : Nat) : (tv x / 2 ^ n + tv x * 2 ^ (32 - n) % 4294967296) % 4294967296 = tv (trn x n) := by
  unfold tv trn
  rw [UInt32.toNat_ofNat']
  have e1 : (x.toNat : Int) / 2 ^ n = ((x.toNat / 2 ^ n : Nat) : Int) := by simp
  have e2 : (x.toNat : Int) * 2 ^ (32 - n) = ((x.toNat * 2 ^ (32 - n) : Nat) : Int) := by simp
  rw [e1, e2]
  omega

/-- Words that lie in a row. -/
def WordsAt (w : World) (g : Nat) (l : List UInt32) : Prop := ∀ j (hj : j < l.length), w.cell? ⟨g, j, none⟩ = some (.int .u32 (tv l[j]))
theorem WordsAt.later {W w1 : World} {g : Nat} {l : List UInt32} (h : WordsAt W g l) (hb : Below W.heap.size W w1) : WordsAt w1 g l := fun j hj => cell_later hb (h j hj)
theorem kst_cells : kst.map (fun x => Value.int .u32 (tv x)) = (#[.int .u32 1116352408, .int .u32 1899447441, .int .u32 3049323471, .int .u32 3921009573, .int .u32 961987163, .int .u32 1508970993, .int .u32 2453635748, .int .u32 2870763221, .int .u32 3624381080, .int .u32 310598401, .int .u32 607225278, .int .u32 1426881987, .int .u32 1925078388, .int .u32 2162078206, .int .u32 2614888103, .int .u32 3248222580, .int .u32 3835390401, .int .u32 4022224774, .int .u32 264347078, .int .u32 604807628, .int .u32 770255983, .int .u32 1249150122, .int .u32 1555081692, .int .u32 1996064986, .int .u32 2554220882, .int .u32 2821834349, .int .u32 2952996808, .int .u32 3210313671, .int .u32 3336571891, .int .u32 3584528711, .int .u32 113926993, .int .u32 338241895, .int .u32 666307205, .int .u32 773529912, .int .u32 1294757372, .int .u32 1396182291, .int .u32 1695183700, .int .u32 1986661051, .int .u32 2177026350, .int .u32 2456956037, .int .u32 2730485921, .int .u32 2820302411, .int .u32 3259730800, .int .u32 3345764771, .int .u32 3516065817, .int .u32 3600352804, .int .u32 4094571909, .int .u32 275423344, .int .u32 430227734, .int .u32 506948616, .int .u32 659060556, .int .u32 883997877, .int .u32 958139571, .int .u32 1322822218, .int .u32 1537002063, .int .u32 1747873779, .int .u32 1955562222, .int .u32 2024104815, .int .u32 2227730452, .int .u32 2361852424, .int .u32 2428436474, .int .u32 2756734187, .int .u32 3204031479, .int .u32 3329325298] : Array Value).toList := by rfl

end Go.Proofs.YtbkefhfbbhdpcabDoor
