/- Bytes made so long. -/
import Derived.Test.YtpnpllklmdjbaaaSL0
namespace Go.Proofs.Ytpnpllklmdjbaaa
open Go.RowKit Go.Proofs.Fd Go.Proofs.Hs Go.Proofs.Cc

/-- copy(b, s): the first bytes, as many as fit. -/
theorem scopy_at (w : World) (b n cap : Nat) (s : ByteArray) (m : Nat) (hm : Nat.min s.size n = m)
    (hc : ∀ j, j < n → (w.cell? ⟨b, j, none⟩).isSome = true) (hf : ∀ j, j < n → w.frozen? ⟨b, j, none⟩ = false) :
    (Builtin.copy_ #[35, 9] 3 #[.slice (some ⟨b, 0, none⟩) n cap, .string s]).run Try.prog w = .ok (.int .i64 (m : Int)) (w.setCells b 0 ((s.data.toList.take m).map fun x => Value.int .u8 (x.toNat : Int))) := by
  have hmn : m ≤ n := by rw [← hm]; exact Nat.min_le_right _ _
  have hms : m ≤ s.size := by rw [← hm]; exact Nat.min_le_left _ _
  have hl : ((s.data.toList.take m).map fun x => Value.int .u8 (x.toNat : Int)).length = m := by
    rw [List.length_map, List.length_take]
    have : s.data.toList.length = s.size := by simp
    omega
  have hst := run_storeCells_cells (P := Try.prog) b 0 ((s.data.toList.take m).map fun x => Value.int .u8 (x.toNat : Int)) 0 w
    (by rw [hl]; intro j hj; simpa using hc j (by omega)) (by rw [hl]; intro j hj; simpa using hf j (by omega))
    (by intro v hv; obtain ⟨x, _, rfl⟩ := List.mem_map.1 hv; rfl)
  simp [Builtin.copy_, run_underlying Try.underlying35, Builtin.lenOf, Builtin.firstCells, hm]
  rw [← List.map_take, hst]
  rfl
theorem BytesAt.scopied {w : World} {b : Nat} {l : List UInt8} (h : BytesAt w b l) (xs : List UInt8) (hx : xs.length ≤ l.length) :
    BytesAt (w.setCells b 0 (xs.map fun x => Value.int .u8 (x.toNat : Int))) b (xs ++ l.drop xs.length) := fun j hj => by
  have hj' : j < l.length := by rw [List.length_append, List.length_drop] at hj; omega
  obtain ⟨h0, h1⟩ := h j hj'
  refine ⟨?_, by rw [World.frozen?_setCells]; exact h1⟩
  by_cases hlt : j < xs.length
  · have := World.cell?_setCells_in b (xs.map fun x => Value.int .u8 (x.toNat : Int)) 0 w (fun i hi => by
      rw [List.length_map] at hi
      rw [Nat.zero_add, (h i (by omega)).1]; rfl) j (by simpa using hlt)
    rw [Nat.zero_add] at this
    rw [this, List.getElem_map, List.getElem_append_left hlt]
  · rw [World.cell?_setCells_out b _ 0 w _ (fun _ _ => .inr (by simp; omega)), h0, List.getElem_append_right (by omega), List.getElem_drop]
    congr 3
    have : xs.length + (j - xs.length) = j := by omega
    simp only [this]
/-- Bytes made so long. -/
def fitb (s : ByteArray) (n : Nat) : ByteArray := ⟨(s.data.toList.take (Nat.min s.size n) ++ (List.replicate n (0 : UInt8)).drop (Nat.min s.size n)).toArray⟩
theorem fitb_len (s : ByteArray) (n : Nat) : (s.data.toList.take (Nat.min s.size n) ++ (List.replicate n (0 : UInt8)).drop (Nat.min s.size n)).length = n := by
  have h1 : Nat.min s.size n ≤ s.size := Nat.min_le_left _ _
  have h2 : Nat.min s.size n ≤ n := Nat.min_le_right _ _
  have h : s.data.toList.length = s.size := by simp
  rw [List.length_append, List.length_take, List.length_drop, List.length_replicate, h]
  omega
theorem fitb_size (s : ByteArray) (n : Nat) : (fitb s n).size = n := by
  show (_ : List UInt8).toArray.size = n
  rw [List.size_toArray]; exact fitb_len s n

set_option maxHeartbeats 400000 in
theorem sfit_any (s : ByteArray) (n : Nat) (hn : n ≤ 140737488355328) (w : World) :
    Calls Try.prog 16 #[.string s, .int .i64 (n : Int)] w fun e w' => e = .returned (.string (fitb s n)) ∧ Below w.heap.size w w' := by
  obtain ⟨A, CA, BA, bA, sA⟩ := make_n n hn w
  obtain ⟨m, hm⟩ : ∃ m, Nat.min s.size n = m := ⟨_, rfl⟩
  have h1 : m ≤ s.size := by rw [← hm]; exact Nat.min_le_left _ _
  have h2 : m ≤ n := by rw [← hm]; exact Nat.min_le_right _ _
  have CP := scopy_at A w.heap.size n n s m hm (fun j hj => by rw [(BA j (by simpa using hj)).1]; rfl) (fun j hj => (BA j (by simpa using hj)).2)
  obtain ⟨D, hD⟩ : ∃ D, A.setCells w.heap.size 0 ((s.data.toList.take m).map fun x => Value.int .u8 (x.toNat : Int)) = D := ⟨_, rfl⟩
  rw [hD] at CP
  have hl : (s.data.toList.take m).length = m := by
    rw [List.length_take]
    have : s.data.toList.length = s.size := by simp
    omega
  have ID := BA.scopied (s.data.toList.take m) (by rw [hl, List.length_replicate]; exact h2)
  rw [hD, hl] at ID
  have FE : Hid (fitb s n = ⟨(s.data.toList.take m ++ (List.replicate n (0 : UInt8)).drop m).toArray⟩) := by
    show _ = _
    unfold fitb
    rw [hm]
  have BD : Hid (Below w.heap.size w D) := by
    rw [← hD]; exact below_setCells (Nat.le_refl _) _ _ _ bA
  have CV := ID.string (cap := n) (n := n) (by
    have := fitb_len s n
    rw [hm] at this
    exact this)
  rw [← FE.out] at CV
  generalize fitb s n = X at *
  clear ID BA bA sA hD hl hm h1 h2 FE
  go_enter Try.func16, Try.ntmps16
  go_wp2
  go_ret
  exact ⟨rfl, BD.out⟩
end Go.Proofs.Ytpnpllklmdjbaaa
