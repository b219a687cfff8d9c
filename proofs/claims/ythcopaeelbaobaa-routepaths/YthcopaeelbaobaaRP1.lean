/- The program's commands: which may be. -/
import Derived.Test.YthcopaeelbaobaaRE
namespace Go.Proofs.Rt
/-- What a kind makes of a command. -/
def nm (h : Hp) : Hp :=
  if h.k = 1 then ⟨h.k, h.n, 0, h.d, ⟨#[]⟩⟩ else if h.k = 2 then ⟨h.k, 0, h.u, h.d, h.id⟩ else if h.k = 3 then ⟨h.k, 0, 0, 0, h.id⟩ else ⟨h.k, 0, 0, 0, ⟨#[]⟩⟩
/-- Whether its numbers may be. -/
def wi (h : Hp) : Bool :=
  (!((h.k == 2 || h.k == 3) && !(h.id.size == 16))) && (decide (0 ≤ h.n) && decide (h.n < 32) && decide (0 ≤ h.u) && decide (h.u < 64) && decide (0 ≤ h.d) && decide (h.d ≤ 4096))
theorem ok_wi (h : Hp) (e : ok h = true) : wi h = true ∧ nm h = h ∧ 1 ≤ h.k ∧ h.k ≤ 4 := by
  obtain ⟨k, n, u, d, id⟩ := h
  rcases ok_cases _ e with ⟨h1, h2, h3, h4, h5, h6, h7⟩ | ⟨h1, h2, h3, h4, h5, h6, h7⟩ | ⟨h1, h2, h3, h4, h5⟩ | ⟨h1, h2, h3, h4, h5⟩ <;> simp only at h1 h2 h3 h4 h5 <;> (try simp only at h6 h7)
  · subst h1 h6 h7; simp [wi, nm]; omega
  · subst h1 h7; simp [wi, nm]; omega
  · subst h1 h3 h4 h5; simp [wi, nm]; omega
  · subst h1 h2 h3 h4 h5; simp [wi, nm]
theorem wi_ok (h : Hp) (h1 : 1 ≤ h.k) (h4 : h.k ≤ 4) (e : nm h = h) (hw : wi h = true) : ok h = true := by
  obtain ⟨k, n, u, d, id⟩ := h
  simp only at h1 h4
  unfold wi at hw
  simp only [Bool.and_eq_true, decide_eq_true_eq, Bool.not_eq_true', Bool.and_eq_false_iff, Bool.or_eq_false_iff, beq_eq_false_iff_ne, Bool.not_eq_false', beq_iff_eq] at hw
  obtain ⟨g, ⟨⟨⟨⟨g1, g2⟩, g3⟩, g4⟩, g5⟩, g6⟩ := hw
  rcases (by omega : k = 1 ∨ k = 2 ∨ k = 3 ∨ k = 4) with rfl | rfl | rfl | rfl
  · simp [nm] at e; obtain ⟨rfl, rfl⟩ := e; exact ok_on _ _ g1 g2 g5 g6
  · simp [nm] at e; subst e; exact ok_home _ _ _ g3 g4 g5 g6 (by simpa using g)
  · simp [nm] at e; obtain ⟨rfl, rfl, rfl⟩ := e; exact ok_loop _ (by simpa using g)
  · simp [nm] at e; obtain ⟨rfl, rfl, rfl, rfl⟩ := e; exact ok_drop
end Go.Proofs.Rt
namespace Go.Proofs.Ythcopaeelbaobaa
open Go.RowKit Go.Proofs.Fd Go.Proofs.Rt
set_option maxRecDepth 20000

/-- The answer of named lies in block b. -/
theorem res_named (tmps : Array Value) (w : World) (b : Nat) (k n u d : Int) (id : ByteArray) (h2 : tmps.getD 2 undef = .pointer (some ⟨b, 0, none⟩)) (l : HopAt w b ⟨k, n, u, d, id⟩) :
    (results Try.f19 tmps).run Try.prog w = .ok (.agg #[.int .i64 k, .int .i64 n, .int .i64 u, .int .i64 d, .string id]) w := by
  have l1 := run_loadVar_mid (P := Try.prog) w b 0 23 [.int .i64 k, .int .i64 n, .int .i64 u, .int .i64 d, .string id] _ l.range Try.underlying23 rfl (by kernel_rfl)
  unfold results
  rw [Try.results19]
  have h2' : tmps[2]?.getD undef = .pointer (some ⟨b, 0, none⟩) := by simpa using h2
  simp [h2', l1, asAddr]
theorem fresh2 (w : World) (o : Obj) (t : TypeId) (k n u d : Int) (id : ByteArray) : HopAt ((w.alloc o).alloc (.cells #[.int .i64 k, .int .i64 n, .int .i64 u, .int .i64 d, .string id] t)) (w.heap.size + 1) ⟨k, n, u, d, id⟩ := by
  have h := HopAt.fresh (w.alloc o) t k n u d id
  have e : (w.alloc o).heap.size = w.heap.size + 1 := by simp
  rw [e] at h
  exact h

set_option maxHeartbeats 1000000 in
theorem named_any (h : Hp) (w : World) :
    Calls Try.prog 19 #[hv h] w fun e w' => e = .returned (hv (nm h)) ∧ Below w.heap.size w w' := by
  have B0 : Hid (∀ o p, Below w.heap.size w ((w.alloc o).alloc p)) := fun o p => ((Below.refl _ _).alloc (Nat.le_refl _) o).alloc (by simp) p
  obtain ⟨k, n, u, d, id⟩ := h
  unfold hv nm
  simp only
  by_cases h1 : k = 1
  · subst h1
    simp only [if_true]
    go_enter Try.func19, Try.ntmps19
    go_wp2
    refine bodyPost_ret (v := .agg #[.int .i64 1, .int .i64 n, .int .i64 0, .int .i64 d, .string ⟨#[]⟩]) ?_ rfl ⟨rfl, B0.out _ _⟩
    exact res_named _ _ (w.heap.size + 1) _ _ _ _ _ (by kernel_rfl) (fresh2 _ _ _ _ _ _ _ _)
  by_cases h2 : k = 2
  · subst h2
    simp only [if_true, if_neg h1]
    clear h1
    go_enter Try.func19, Try.ntmps19
    go_wp2
    refine bodyPost_ret (v := .agg #[.int .i64 2, .int .i64 0, .int .i64 u, .int .i64 d, .string id]) ?_ rfl ⟨rfl, B0.out _ _⟩
    exact res_named _ _ (w.heap.size + 1) _ _ _ _ _ (by kernel_rfl) (fresh2 _ _ _ _ _ _ _ _)
  by_cases h3 : k = 3
  · subst h3
    simp only [if_true, if_neg h1, if_neg h2]
    clear h1 h2
    go_enter Try.func19, Try.ntmps19
    go_wp2
    refine bodyPost_ret (v := .agg #[.int .i64 3, .int .i64 0, .int .i64 0, .int .i64 0, .string id]) ?_ rfl ⟨rfl, B0.out _ _⟩
    exact res_named _ _ (w.heap.size + 1) _ _ _ _ _ (by kernel_rfl) (fresh2 _ _ _ _ _ _ _ _)
  simp only [if_neg h1, if_neg h2, if_neg h3]
  go_enter Try.func19, Try.ntmps19
  go_wp2
  refine bodyPost_ret (v := .agg #[.int .i64 k, .int .i64 0, .int .i64 0, .int .i64 0, .string ⟨#[]⟩]) ?_ rfl ⟨rfl, B0.out _ _⟩
  exact res_named _ _ (w.heap.size + 1) _ _ _ _ _ (by kernel_rfl) (fresh2 _ _ _ _ _ _ _ _)

set_option maxHeartbeats 1000000 in
theorem within_t (h : Hp) (hw : wi h = true) (w : World) :
    Calls Try.prog 20 #[hv h] w fun e w' => e = .returned (.bool true) ∧ Below w.heap.size w w' := by
  have B0 : Hid (∀ o, Below w.heap.size w (w.alloc o)) := fun o => (Below.refl _ _).alloc (Nat.le_refl _) o
  obtain ⟨k, n, u, d, id⟩ := h
  unfold wi at hw
  simp only [Bool.and_eq_true, decide_eq_true_eq, Bool.not_eq_true', Bool.and_eq_false_iff, Bool.or_eq_false_iff, beq_eq_false_iff_ne, Bool.not_eq_false', beq_iff_eq] at hw
  obtain ⟨g, ⟨⟨⟨⟨g1, g2⟩, g3⟩, g4⟩, g5⟩, g6⟩ := hw
  unfold hv
  rcases g with ⟨q1, q2⟩ | q
  · go_enter Try.func20, Try.ntmps20
    go_wp2
    all_goals (go_ret; exact ⟨rfl, B0.out _⟩)
  · have z : (id.size : Int) = 16 := by omega
    go_enter Try.func20, Try.ntmps20
    go_wp2
    all_goals (go_ret; exact ⟨rfl, B0.out _⟩)

set_option maxHeartbeats 1000000 in
theorem within_f (h : Hp) (hw : ¬ wi h = true) (w : World) :
    Calls Try.prog 20 #[hv h] w fun e w' => e = .returned (.bool false) ∧ Below w.heap.size w w' := by
  have B0 : Hid (∀ o, Below w.heap.size w (w.alloc o)) := fun o => (Below.refl _ _).alloc (Nat.le_refl _) o
  obtain ⟨k, n, u, d, id⟩ := h
  have HK : Hid (¬ wi ⟨k, n, u, d, id⟩ = true) := hw
  clear hw
  unfold hv
  go_enter Try.func20, Try.ntmps20
  go_wp2
  all_goals (first
    | (go_ret; exact ⟨rfl, B0.out _⟩)
    | (exfalso; apply HK.out; unfold wi; simp_all; done)
    | (go_ret; refine ⟨?_, B0.out _⟩; show Ending.returned (.bool (decide (d ≤ 4096))) = _; rw [decide_eq_false]; intro q; apply HK.out; unfold wi; simp_all; try omega))
end Go.Proofs.Ythcopaeelbaobaa
