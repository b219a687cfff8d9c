/- The digests. -/
import Derived.Test.YtpnpllklmdjbaaaK5
import Derived.Deep.MidRow
import Derived.Lib.LazyBuf
namespace Go.Proofs.Ytpnpllklmdjbaaa
open Go.RowKit Go.Proofs.Fd Go.Proofs.Hs

/-- The machine's cells at the start. -/
def c25 : List Value := [.int .u32 1779033703, .int .u32 3144134277, .int .u32 1013904242, .int .u32 2773480762, .int .u32 1359893119, .int .u32 2600822924, .int .u32 528734635, .int .u32 1541459225, .int .u32 0, .int .u32 0, .int .u32 0, .int .u32 0, .int .u32 0, .int .u32 0, .int .u32 0, .int .u32 0, .int .u32 0, .int .u32 0, .int .u32 0, .int .u32 0, .int .u32 0, .int .u32 0, .int .u32 0, .int .u32 0, .int .u64 0]
theorem c25_one : ∀ v ∈ c25, v.oneCell' = true := by
  intro v hv
  simp only [c25, List.mem_cons, List.not_mem_nil, or_false] at hv
  rcases hv with rfl | rfl | rfl | rfl | rfl | rfl | rfl | rfl | rfl | rfl | rfl | rfl | rfl | rfl | rfl | rfl | rfl | rfl | rfl | rfl | rfl | rfl | rfl | rfl | rfl <;> rfl
theorem there25 (w : World) (t : TypeId) : (w.alloc (.cells #[.int .u32 0, .int .u32 0, .int .u32 0, .int .u32 0, .int .u32 0, .int .u32 0, .int .u32 0, .int .u32 0, .int .u32 0, .int .u32 0, .int .u32 0, .int .u32 0, .int .u32 0, .int .u32 0, .int .u32 0, .int .u32 0, .int .u32 0, .int .u32 0, .int .u32 0, .int .u32 0, .int .u32 0, .int .u32 0, .int .u32 0, .int .u32 0, .int .u64 0] t)).there w.heap.size 0 25 := fun j hj => by
  refine ⟨?_, by simp [go_sem]⟩
  rw [Nat.zero_add, World.cell?_alloc_new, Array.getElem?_eq_getElem (xs := (#[.int .u32 0, .int .u32 0, .int .u32 0, .int .u32 0, .int .u32 0, .int .u32 0, .int .u32 0, .int .u32 0, .int .u32 0, .int .u32 0, .int .u32 0, .int .u32 0, .int .u32 0, .int .u32 0, .int .u32 0, .int .u32 0, .int .u32 0, .int .u32 0, .int .u32 0, .int .u32 0, .int .u32 0, .int .u32 0, .int .u32 0, .int .u32 0, .int .u64 0] : Array Value)) hj]
  rfl

theorem oper_ok {P : Program} {o : Oper} {a : Act} {w w' : World} {K : Act → World → Prop} {Q : Exit → Act → World → Prop} {v : Value} (h : (execOp a.eval o).run P w = .ok (.value v) w') (hk : K (a.put o.dst v) w') : o.wp P a w K Q := by
  unfold Oper.wp
  rw [h]
  exact hk

theorem start_mc {w V : World} (hp : 0 < w.heap.size) (hk : KstAt w) (hb : Below w.heap.size w V) (hr : V.rangeAt w.heap.size 0 c25) (hz : ∀ o, V.frozen? ⟨w.heap.size, o, none⟩ = false) : Mc V w.heap.size Hs.start := by
  refine ⟨hp, hk.later hb hp, hr 0 _ rfl, hr 1 _ rfl, hr 2 _ rfl, hr 3 _ rfl, hr 4 _ rfl, hr 5 _ rfl, hr 6 _ rfl, hr 7 _ rfl, fun k hk => ?_, hr 24 _ rfl, hz, rfl, by decide⟩
  rcases (by omega : k = 0 ∨ k = 1 ∨ k = 2 ∨ k = 3 ∨ k = 4 ∨ k = 5 ∨ k = 6 ∨ k = 7 ∨ k = 8 ∨ k = 9 ∨ k = 10 ∨ k = 11 ∨ k = 12 ∨ k = 13 ∨ k = 14 ∨ k = 15) with rfl | rfl | rfl | rfl | rfl | rfl | rfl | rfl | rfl | rfl | rfl | rfl | rfl | rfl | rfl | rfl
  · exact hr 8 _ rfl
  · exact hr 9 _ rfl
  · exact hr 10 _ rfl
  · exact hr 11 _ rfl
  · exact hr 12 _ rfl
  · exact hr 13 _ rfl
  · exact hr 14 _ rfl
  · exact hr 15 _ rfl
  · exact hr 16 _ rfl
  · exact hr 17 _ rfl
  · exact hr 18 _ rfl
  · exact hr 19 _ rfl
  · exact hr 20 _ rfl
  · exact hr 21 _ rfl
  · exact hr 22 _ rfl
  · exact hr 23 _ rfl

/-- Strings that lie in a row. -/
def StrAt (w : World) (a : Option Addr) (ks : List ByteArray) : Prop := ∀ i (hi : i < ks.length), ∃ b o, a = some ⟨b, o, none⟩ ∧ w.cell? ⟨b, o + i, none⟩ = some (.string ks[i])

theorem StrAt.later {B : Nat} {W w1 : World} {a : Option Addr} {ks : List ByteArray} (h : StrAt W a ks) (hb : Below B W w1) (hB : W.heap.size = B) : StrAt w1 a ks := fun i hi => by
  subst hB
  obtain ⟨b, o, e, hc⟩ := h i hi
  exact ⟨b, o, e, cell_later hb hc⟩

theorem flat_step {β : Type} (f : ByteArray → List β) (ks : List ByteArray) (k : Nat) (hk : k < ks.length) : (ks.take (k + 1)).flatMap f = (ks.take k).flatMap f ++ f ks[k] := by
  rw [List.take_succ_eq_append_getElem hk, List.flatMap_append, List.flatMap_singleton]

end Go.Proofs.Ytpnpllklmdjbaaa
