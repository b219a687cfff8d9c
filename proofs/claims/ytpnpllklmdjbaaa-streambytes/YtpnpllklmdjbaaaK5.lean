/- The machine takes a number in. -/
import Derived.Test.YtpnpllklmdjbaaaK4
namespace Go.Proofs.Ytpnpllklmdjbaaa
open Go.RowKit Go.Proofs.Fd Go.Proofs.Hs

theorem be8_len (n : Nat) : (be8 n).length = 8 := by simp [be8]
theorem be8_at (n j : Nat) (hj : j < 8) : (be8 n)[j]'(by rw [be8_len]; exact hj) = UInt8.ofNat (n / 2 ^ (8 * (7 - j))) := by simp [be8]

theorem put_n (m : Mach) (c : UInt8) : (m.put c).n = (m.n + 1) % 18446744073709551616 := by
  unfold Mach.put Mach.push Mach.mix
  simp only
  split <;> rfl
theorem text_app (m : Mach) (s t : List UInt8) : m.text (s ++ t) = (m.text s).text t := by unfold Mach.text; rw [List.foldl_append]
theorem text_nil (m : Mach) : m.text [] = m := rfl
theorem text_one (m : Mach) (c : UInt8) : m.text [c] = m.put c := rfl
theorem text_zeros (m : Mach) (k : Nat) : m.text (List.replicate (k + 1) 0) = (m.put 0).text (List.replicate k 0) := rfl
/-- Zeros taken in, up to the end. -/
theorem pad_put (m : Mach) (h : m.n % 64 ≠ 56) : (m.put 0).pad = m.pad ∧ padn (m.put 0).n < padn m.n := by
  have e : padn m.n = padn (m.put 0).n + 1 := by rw [put_n]; unfold padn; omega
  refine ⟨?_, by omega⟩
  unfold Mach.pad
  rw [e, text_zeros]
theorem pad_done (m : Mach) (h : m.n % 64 = 56) : m.pad = m := by
  unfold Mach.pad
  rw [show padn m.n = 0 by unfold padn; omega]
  rfl

/-- What is left of a machine's count, off its cell. -/
def toGo (b : Nat) (w : World) : Nat := padn (intOf ((w.cell? ⟨b, 24, none⟩).getD undef)).toNat
theorem toGo_mc {w : World} {b : Nat} {m : Mach} (h : Mc w b m) : toGo b w = padn m.n := by
  unfold toGo; rw [h.cn]; rfl

/-- The words that go out. -/
def V8.l (v : V8) : List UInt32 := [v.a, v.b, v.c, v.d, v.e, v.f, v.g, v.h]
def outs (v : V8) (k : Nat) : List UInt8 := ((V8.l v).take k).flatMap w4

theorem Mc.alloc {w : World} {b : Nat} {m : Mach} (h : Mc w b m) (o : Obj) : Mc (w.alloc o) b m := by
  have hl : b < w.heap.size := World.block_lt_of_cell? _ _ h.c0
  refine ⟨h.pos, h.kst.later ((Below.refl _ w).alloc (Nat.le_refl _) o) (by omega), cell_alloc h.c0, cell_alloc h.c1, cell_alloc h.c2, cell_alloc h.c3, cell_alloc h.c4, cell_alloc h.c5, cell_alloc h.c6, cell_alloc h.c7, fun k hk => cell_alloc (h.ring k hk), cell_alloc h.cn, fun q => ?_, h.len, h.lt⟩
  rw [World.frozen?_alloc_past _ _ _ hl]; exact h.fz q
theorem Mc.below {w : World} {b : Nat} {m : Mach} (h : Mc w b m) : b < w.heap.size := World.block_lt_of_cell? _ _ h.c0

/-- Bytes as cells. -/
def bcells (l : List UInt8) : List Value := l.map fun b => .int .u8 b.toNat
theorem infoByte : (Try.prog.info? 5).map (fun i => (i.zero, i.size, i.bytes)) = some (some (.int .u8 0), 1, 1) := by kernel_rfl
theorem cells_new (w : World) (cs : Array Value) (t : TypeId) : ∀ j u, cs.toList[j]? = some u → (w.alloc (.cells cs t)).cell? (Addr.add ⟨w.heap.size, 0, none⟩ j) = some u := fun j u h => by
  have q : Addr.add ⟨w.heap.size, 0, none⟩ j = ⟨w.heap.size, j, none⟩ := by simp [Addr.add]; intro h; exact h.symm
  rw [q, World.cell?_alloc_new]
  simpa using h

theorem owns_bytes {w : World} {base n : Nat} {v : Value} {l : List UInt8} (h : w.ownsRow base 5 1 v n (bcells l)) : l.length = n ∧ ((v = .slice none 0 0 ∧ n = 0) ∨ ∃ g cap, v = .slice (some ⟨g, 0, none⟩) n cap ∧ ∀ j (hj : j < l.length), w.cell? ⟨g, j, none⟩ = some (.int .u8 (l[j].toNat : Int))) := by
  obtain ⟨h1, h2⟩ := h
  have hl : l.length = n := by simpa [bcells] using h1
  refine ⟨hl, ?_⟩
  rcases h2 with h2 | ⟨g, cap, cur, rfl, -, hh, -, -, -, ht⟩
  · exact .inl h2
  · refine .inr ⟨g, cap, rfl, fun j hj => ?_⟩
    have e : cur[j]? = (bcells l)[j]? := by
      rw [← ht, List.getElem?_take_of_lt (by omega)]; simp
    unfold World.cell?
    rw [hh]
    simp only [Option.isSome_none]
    show cur[j]? = _
    rw [e]; simp [bcells, hj]

theorem w4_cells (x : UInt32) : [Value.int .u8 (tv x / 16777216 % 256), .int .u8 (tv x / 65536 % 256), .int .u8 (tv x / 256 % 256), .int .u8 (tv x % 256)] = bcells (w4 x) := by
  unfold bcells w4 tv
  simp
theorem outs_all (v : V8) : outs v 8 = v.out := by simp [outs, V8.l, V8.out]
theorem heap_new (w : World) (o : Obj) : (w.alloc o).heap[w.heap.size]? = some o := by
  show (w.heap.push o)[w.heap.size]? = some o
  simp

end Go.Proofs.Ytpnpllklmdjbaaa
