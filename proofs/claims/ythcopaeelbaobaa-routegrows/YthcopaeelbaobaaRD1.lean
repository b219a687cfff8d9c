/- The document's commands: which may be. -/
import Derived.Test.YthcopaeelbaobaaKB
import Derived.Test.YthcopaeelbaobaaRM
namespace Go.Proofs.Ythcopaeelbaobaa
open Go.RowKit Go.Proofs.Fd Go.Proofs.Rt
set_option maxRecDepth 20000

/-- A command, as a value. -/
def hv (h : Hp) : Value := .agg #[.int .i64 h.k, .int .i64 h.n, .int .i64 h.u, .int .i64 h.d, .string h.id]
theorem none_of (b : ByteArray) : b.toList.isEmpty = (b.size == 0) := by
  rw [ByteArray.toList_eq]
  have : b.data.toList.length = b.size := by simp
  cases h : b.data.toList with
  | nil => rw [h] at this; simp at this; simp [← this]
  | cons x l => rw [h] at this; simp at this; simp [← this]

set_option maxHeartbeats 1000000 in
theorem rCheck_any (h : Hp) (w : World) :
    Calls Try.prog 12 #[hv h] w fun e w' => e = .returned (.int .i64 (chk h)) ∧ Below w.heap.size w w' := by
  have B0 : Hid (∀ o, Below w.heap.size w (w.alloc o)) := fun o => (Below.refl _ _).alloc (Nat.le_refl _) o
  obtain ⟨k, n, u, d, id⟩ := h
  by_cases hk : ok ⟨k, n, u, d, id⟩ = true
  · rw [show chk ⟨k, n, u, d, id⟩ = 0 from if_pos hk]
    have NI := none_of id
    unfold hv
    rcases ok_cases _ hk with ⟨h1, h2, h3, h4, h5, h6, h7⟩ | ⟨h1, h2, h3, h4, h5, h6, h7⟩ | ⟨h1, h2, h3, h4, h5⟩ | ⟨h1, h2, h3, h4, h5⟩
    · simp only at h1 h2 h3 h4 h5 h6 h7
      subst h1 h6 h7
      clear hk
      go_enter Try.func12, Try.ntmps12
      go_wp2
      go_ret
      exact ⟨rfl, B0.out _⟩
    · simp only at h1 h2 h3 h4 h5 h6 h7
      subst h1 h7
      have z : (id.size : Int) = 16 := by omega
      clear hk
      go_enter Try.func12, Try.ntmps12
      go_wp2
      go_ret
      exact ⟨rfl, B0.out _⟩
    · simp only at h1 h2 h3 h4 h5
      subst h1 h3 h4 h5
      have z : (id.size : Int) = 16 := by omega
      clear hk
      go_enter Try.func12, Try.ntmps12
      go_wp2
      go_ret
      exact ⟨rfl, B0.out _⟩
    · simp only at h1 h2 h3 h4 h5
      subst h1 h2 h3 h4 h5
      clear hk
      go_enter Try.func12, Try.ntmps12
      go_wp2
      go_ret
      exact ⟨rfl, B0.out _⟩
  · rw [show chk ⟨k, n, u, d, id⟩ = 70 from if_neg hk]
    have NI := none_of id
    have HK : Hid (¬ ok ⟨k, n, u, d, id⟩ = true) := hk
    clear hk
    unfold hv
    go_enter Try.func12, Try.ntmps12
    go_wp2
    all_goals (first
      | (go_ret; exact ⟨rfl, B0.out _⟩)
      | (exfalso; apply HK.out; unfold ok; simp_all; done)
      | (exfalso; apply HK.out; unfold ok; simp_all; omega))
end Go.Proofs.Ythcopaeelbaobaa
