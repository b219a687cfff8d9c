/- FrameChunks: texts that are framed, and come in any chunks, are told, each once, in order. -/
import Derived.Test.YtbaajpefefedbaaFrL2
namespace Go.Proofs.Fr
/-- A chunk more: what is told, what is left. -/
theorem chunk_go (T : List (List UInt8)) (hT : ∀ s ∈ T, s.length ≤ 4096) (h60 : T.length ≤ 60) (N : Nat) (hN : 60 ≤ N) (j : Nat) (hj : j ≤ T.length) (h c q : List UInt8) (e : h ++ (c ++ q) = ofl (T.drop j)) :
    ∃ (j' : Nat) (h' : List UInt8), j' ≤ T.length ∧ h' ++ q = ofl (T.drop j') ∧ ¬ has h' ∧ takeE ⟨h, false⟩ c = 0 ∧ takeR ⟨h, false⟩ c = ⟨h ++ c, false⟩ ∧ Good ⟨h ++ c, false⟩ ∧ T.take j ++ drain N ⟨h ++ c, false⟩ = T.take j' ∧ left N ⟨h ++ c, false⟩ = ⟨h', false⟩ ∧ h.length ≤ 1048576 := by
  have hl : ∀ s ∈ T.drop j, s.length ≤ 4096 := fun s hs => hT s (List.mem_of_mem_drop hs)
  rw [← List.append_assoc] at e
  obtain ⟨k, h', k1, k2, k3, k4, k5⟩ := chunk_step (T.drop j) hl h c q e
  have hb := ofl_bound (T.drop j) hl
  have hlen := congrArg List.length e
  rw [List.length_append, List.length_append] at hlen
  have hd : (T.drop j).length ≤ 60 := by rw [List.length_drop]; omega
  have hs : (ofl (T.drop j)).length ≤ 246000 := Nat.le_trans hb (Nat.le_trans (Nat.mul_le_mul_right _ hd) (by decide))
  obtain ⟨t1, t2⟩ := take_ok h c k4 (by omega)
  obtain ⟨d1, d2⟩ := k5 N (by omega)
  rw [List.length_drop] at k1
  refine ⟨j + k, h', by omega, by rw [← List.drop_drop]; exact k2, k3, t1, t2, ⟨k4, fun z => (by cases z), ?_⟩, ?_, d2, by omega⟩
  · show (h ++ c).length ≤ 1048576
    rw [List.length_append]; omega
  · rw [d1, List.take_add]
end Go.Proofs.Fr
namespace Go.Proofs.Ytbaajpefefedbaa
open Go.RowKit Go.Proofs.Fd Go.Proofs.Fr
set_option maxRecDepth 20000

theorem bas_tls (ks : List ByteArray) (j : Nat) : bas ((tls ks).take j) = ks.take j := by
  unfold bas tls
  rw [← List.map_take, List.map_map]
  conv => rhs; rw [← List.map_id (ks.take j)]
  apply List.map_congr_left
  intro s _
  simp
/-- Numbers that lie in a row. -/
def IntAt (w : World) (a : Option Addr) (cs : List Int) : Prop := ∀ i (hi : i < cs.length), ∃ b o, a = some ⟨b, o, none⟩ ∧ w.cell? ⟨b, o + i, none⟩ = some (.int .i64 cs[i])
theorem IntAt.later {W w1 : World} {a : Option Addr} {cs : List Int} (h : IntAt W a cs) (hb : Below W.heap.size W w1) : IntAt w1 a cs := fun i hi => by
  obtain ⟨b, o, e, hc⟩ := h i hi
  exact ⟨b, o, e, cell_later hb hc⟩
theorem ext_list (s : ByteArray) (a b : Nat) : (s.extract a b).data.toList = (s.data.toList.take b).drop a := by
  simp [ByteArray.data_extract, List.drop_take]
theorem cut_at (s : ByteArray) (m : Nat) : s.data.toList = (s.extract 0 m).data.toList ++ (s.extract m s.size).data.toList := by
  rw [ext_list, ext_list, List.drop_zero, List.take_of_length_le (i := s.size) (by simp), List.take_append_drop]
/-- What holds at each chunk: so many texts are told, these bytes are with the reader, those are still to come. -/
def Chk (ks : List ByteArray) (j : Nat) (h q : List UInt8) : Prop := j ≤ ks.length ∧ h ++ q = ofl ((tls ks).drop j) ∧ ¬ has h
theorem tls_len (ks : List ByteArray) : (tls ks).length = ks.length := by unfold tls; rw [List.length_map]
theorem tls_fit {ks : List ByteArray} (h : fits ks) : ∀ s ∈ tls ks, s.length ≤ 4096 := by
  intro s hs
  obtain ⟨x, hx, rfl⟩ := List.mem_map.1 hs
  have := h x hx
  simpa using this
theorem chk_step {ks : List ByteArray} (hf : fits ks) (h60 : ks.length ≤ 60) (N : Nat) (hN : 60 ≤ N) {j : Nat} {h : List UInt8} {s : ByteArray} (H : Chk ks j h s.data.toList) (m : Nat) :
    ∃ (j' : Nat) (h' : List UInt8), Chk ks j' h' (s.extract m s.size).data.toList ∧ takeE ⟨h, false⟩ (s.extract 0 m).data.toList = 0 ∧ takeR ⟨h, false⟩ (s.extract 0 m).data.toList = ⟨h ++ (s.extract 0 m).data.toList, false⟩ ∧ Fr.Good ⟨h ++ (s.extract 0 m).data.toList, false⟩ ∧ bas ((tls ks).take j) ++ bas (Fr.drain N ⟨h ++ (s.extract 0 m).data.toList, false⟩) = ks.take j' ∧ Fr.left N ⟨h ++ (s.extract 0 m).data.toList, false⟩ = ⟨h', false⟩ ∧ h.length ≤ 1048576 := by
  obtain ⟨h1, h2, h3⟩ := H
  rw [cut_at s m] at h2
  obtain ⟨j', h', q1, q2, q3, q4, q5, q6, q7, q8, q9⟩ := chunk_go (tls ks) (tls_fit hf) (by rw [tls_len]; exact h60) N hN j (by rw [tls_len]; exact h1) h _ _ h2
  exact ⟨j', h', ⟨by rw [tls_len] at q1; exact q1, q2, q3⟩, q4, q5, q6, by rw [← bas_app, q7, bas_tls], q8, q9⟩
theorem chk_end {ks : List ByteArray} (hf : fits ks) {j : Nat} {h : List UInt8} (H : Chk ks j h []) : j = ks.length ∧ h = [] := by
  obtain ⟨h1, h2, h3⟩ := H
  rw [List.append_nil] at h2
  have e := end_all _ (fun s hs => tls_fit hf s (List.mem_of_mem_drop hs)) h h2 h3
  refine ⟨?_, by rw [h2, e]; rfl⟩
  have := congrArg List.length e
  rw [List.length_drop, tls_len] at this
  simp at this
  omega
end Go.Proofs.Ytbaajpefefedbaa
