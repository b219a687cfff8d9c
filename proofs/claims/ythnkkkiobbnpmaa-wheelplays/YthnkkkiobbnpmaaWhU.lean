/- Rows that are sorted, whatever they have. -/
import Derived.Test.YthnkkkiobbnpmaaWhO
namespace Go.Proofs.Ythnkkkiobbnpmaa
open Go.RowKit Go.Proofs.Fd Go.Proofs.Wh
set_option maxRecDepth 20000

set_option maxHeartbeats 1000000 in
theorem ins_nil (w : World) (fv : Value) : Calls Try.prog 39 #[.slice none 0 0, .int .i64 0, .int .i64 0, fv] w fun e w' => e = .returned (.tuple #[]) ∧ w' = w := by
  go_enter Try.func39, Try.ntmps39
  go_wp2
  refine wp_loop_rounds 1 ?_
  rw [rounds_succ]
  go_wp2
  go_end0
  exact ⟨rfl, rfl⟩
set_option maxHeartbeats 1000000 in
theorem pdq_nil (w : World) (fv : Value) : Calls Try.prog 34 #[.slice none 0 0, .int .i64 0, .int .i64 0, .int .i64 0, fv] w fun e w' => e = .returned (.tuple #[]) ∧ w' = w := by
  have C := fun W => ins_nil W fv
  go_enter Try.func34, Try.ntmps34
  go_wp2
  refine wp_loop_rounds 1 ?_
  rw [rounds_succ]
  go_wp2_with (go_at_call 39; refine (C _).mono ?_; rintro e w' ⟨rfl, rfl⟩)
  exact bodyPost_ret (results_none Try.results34 _ _ _) rfl ⟨rfl, rfl⟩
theorem sort_nil (w : World) (fv : Value) : Calls Try.prog 29 #[.slice none 0 0, fv] w fun e w' => e = .returned (.tuple #[]) ∧ w' = w := by
  have C := fun W => pdq_nil W fv
  have L : ∀ W, Calls Try.prog 32 #[.int .u64 0] W fun e w' => e = .returned (.int .i64 0) ∧ w' = W := fun W => len_any 0 (by decide) W
  go_enter Try.func29, Try.ntmps29
  go_wp2_with (first | (go_at_call 32; refine (L _).mono ?_; rintro e w' ⟨rfl, rfl⟩) | (go_at_call 34; refine (C _).mono ?_; rintro e w' ⟨rfl, rfl⟩))
  go_end0
  exact ⟨rfl, rfl⟩
theorem sortR_any (l : List Tm) (h1 : l.length ≤ 4096) (w : World) (va : Option Addr) (vn vc : Nat) (h : OwnsT w (.slice va vn vc) l) :
    Calls Try.prog 29 #[.slice va vn vc, .func (.func 30) #[] #[]] w fun e w' => e = .returned (.tuple #[]) ∧ ∃ l' : List Tm, l'.Perm l ∧ l'.Pairwise (fun x y => ¬ lt y x) ∧ OwnsT w' (.slice va vn vc) l' ∧ w.grownBy w' (Value.slice va vn vc).ownBlock := by
  rcases owns_tm h with ⟨e, rfl⟩ | ⟨g, cap, e, -, -⟩
  · rw [e] at h ⊢
    refine (sort_nil w _).mono ?_
    rintro e w' ⟨rfl, rfl⟩
    exact ⟨rfl, [], List.Perm.refl _, List.Pairwise.nil, h, ⟨rfl, rfl, rfl, Nat.le_refl _, fun _ _ _ => rfl⟩⟩
  · rw [e] at h ⊢
    exact sort_any g cap l l.length rfl h1 w h
end Go.Proofs.Ythnkkkiobbnpmaa
