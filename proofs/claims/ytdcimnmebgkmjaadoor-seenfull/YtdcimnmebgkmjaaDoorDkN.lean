/- A new disk. -/
import Derived.Test.YtdcimnmebgkmjaaDoorDkP
namespace Go.Proofs.YtdcimnmebgkmjaaDoor
open Go.RowKit Go.Proofs.Fd Go.Proofs.Dk
set_option maxRecDepth 20000

def zero64 : Value := .agg (Array.replicate 64 (.int .u8 0))
theorem infoC : (Tryd.prog.info? 67).map (fun i => (i.zero, i.size, i.bytes)) = some (some zero64, 64, 64) := by kernel_rfl
theorem made_rep (m n j : Nat) (x : Value) (hm : 0 < m) (hj : j < n) : (madeCells (Array.replicate m x) n)[j]? = some x := by
  have h : j % m < m := Nat.mod_lt _ hm
  simp [madeCells, hj, h]
theorem made_at (n j : Nat) (hj : j < n * 64) : (madeCells zero64.cells (n * 64))[j]? = some (.int .u8 0) := made_rep 64 _ _ _ (by decide) hj
theorem bc_zeros (n : Nat) : bc (List.replicate n 0) = List.replicate n (.int .u8 0) := by simp [bc]
theorem make_secs (n : Nat) (hn : n ≤ 1024) : ∃ M : Array Value, (∀ w : World, (Instr.makeSlice 50 (.int .i64 (n : Int)) (.int .i64 (n : Int))).run Tryd.prog w = .ok (.slice (some ⟨w.heap.size, 0, none⟩) n n) (w.alloc (.cells M 67)))
    ∧ ∀ w : World, Sec (w.alloc (.cells M 67)) w.heap.size n (fun _ => List.replicate 64 0) := by
  obtain ⟨i0, hi, hz0, hz1, hz2⟩ := info_parts infoC
  refine ⟨madeCells zero64.cells (n * 64), fun w => ?_, fun w => ?_⟩
  · have h := run_make (P := Tryd.prog) w 50 67 i0 zero64 Tryd.underlying50 hi hz0 .i64 .i64 (n : Int) (n : Int) (by omega) (Int.le_refl _) (by rw [hz2]; omega) (by omega)
    rw [Int.toNat_natCast, hz1] at h
    exact h
  · have hc : ∀ j, j < n * 64 → (w.alloc (.cells (madeCells zero64.cells (n * 64)) 67)).cell? ⟨w.heap.size, j, none⟩ = some (.int .u8 0) := fun j hj => by
      rw [World.cell?_alloc_new, made_at n j hj]
    refine ⟨fun k hk j v hv => ?_, fun j hj => ?_, fun _ => by simp⟩
    · have hj : j < 64 := by
        have := (List.getElem?_eq_some_iff.1 hv).1
        rw [bc_len, List.length_replicate] at this
        exact this
      rw [hc _ (by omega)]
      rw [bc_zeros, List.getElem?_replicate, if_pos hj] at hv
      rw [← hv]
    · rw [Nat.zero_add, hc j hj]
      exact ⟨rfl, by simp [go_sem]⟩
theorem new_no (n : Int) (h : n < 1 ∨ 1024 < n) (w : World) :
    Calls Tryd.prog 7 #[.int .i64 n] w fun e w' => e = .returned (.tuple #[.pointer none, .int .i64 1]) ∧ w' = w := by
  rcases h with h | h
  · go_enter Tryd.func7, Tryd.ntmps7
    go_wp2
    go_ret2
    exact ⟨rfl, rfl⟩
  · have h1 : ¬ n < 1 := by omega
    go_enter Tryd.func7, Tryd.ntmps7
    go_wp2
    go_ret2
    exact ⟨rfl, rfl⟩
/-- Two rows of sectors and a block. -/
theorem new_raw (n : Nat) (h1 : 1 ≤ n) (h2 : n ≤ 1024) (w w2 : World) (a b : Nat) (ha : Sec w2 a n (fun _ => List.replicate 64 0)) (hb : Sec w2 b n (fun _ => List.replicate 64 0)) (ea : w.heap.size ≤ a) (eb : w.heap.size ≤ b) (hn : a ≠ b) (hw : Below w.heap.size w w2) (p : Nat) (hp : w2.heap.size = p) :
    let W := (w2.alloc (.cells #[.int .i64 0, .int .i64 0, .slice (some ⟨a, 0, none⟩) n n, .slice (some ⟨b, 0, none⟩) n n, .slice none 0 0] 53)).drew
    (∃ F, KAt W p F (St.init n) ∧ ∀ g, F g → w.heap.size ≤ g) ∧ Below w.heap.size w W := by
  subst hp
  have la := ha.lt h1
  have lb := hb.lt h1
  have nb : Below w2.heap.size w2 (w2.alloc (.cells #[.int .i64 0, .int .i64 0, .slice (some ⟨a, 0, none⟩) n n, .slice (some ⟨b, 0, none⟩) n n, .slice none 0 0] 53)).drew := ((Below.refl _ _).alloc (Nat.le_refl _) _).drew
  refine ⟨⟨Foot w2.heap.size a b (.slice none 0 0), ⟨Ok.init h1 h2, a, b, _, rfl, ?_⟩, fun g hg => ?_⟩, chain hw nb⟩
  · exact ⟨by simp [go_sem, St.init], by simp [go_sem, St.init], by simp [go_sem, St.init], by simp [go_sem, St.init], by simp [go_sem], fun o => by simp [go_sem], ha.same (nb.block a la), hb.same (nb.block b lb), World.ownsRow_nil _ _ _ _,
      by omega, by omega, hn, nofun, nofun, nofun, h1⟩
  · rcases hg with rfl | rfl | rfl | e
    · exact hw.size
    · exact ea
    · exact eb
    · cases e
theorem new_any (n : Nat) (h1 : 1 ≤ n) (h2 : n ≤ 1024) (w : World) :
    Calls Tryd.prog 7 #[.int .i64 (n : Int)] w fun e w' => ∃ p F, e = .returned (.tuple #[.pointer (some ⟨p, 0, none⟩), .int .i64 0]) ∧ KAt w' p F (St.init n) ∧ (∀ g, F g → w.heap.size ≤ g) ∧ Below w.heap.size w w' := by
  have g1 : ¬ (n : Int) < 1 := by omega
  have g2 : ¬ (1024 : Int) < (n : Int) := by omega
  obtain ⟨M, MK, hM⟩ := make_secs n h2
  have HS : Hid (∀ w : World, Sec _ _ _ _) := hM
  have S1 : Sec ((w.alloc (.cells M 67)).alloc (.cells M 67)) w.heap.size n (fun _ => List.replicate 64 0) := (hM w).same (((Below.refl _ _).alloc (Nat.le_refl _) _).block _ ((hM w).lt h1))
  have S2 := hM (w.alloc (.cells M 67))
  have e1 : (w.alloc (.cells M 67)).heap.size = w.heap.size + 1 := by simp
  have BB : Below w.heap.size w ((w.alloc (.cells M 67)).alloc (.cells M 67)) := chain ((Below.refl _ _).alloc (Nat.le_refl _) _) ((Below.refl _ _).alloc (Nat.le_refl _) _)
  rw [e1] at S2
  have K1 : Hid _ := new_raw n h1 h2 w _ _ _ S1 S2 (Nat.le_refl _) (by omega) (by omega) BB (w.heap.size + 1 + 1) (by simp)
  have K2 : Hid _ := new_raw n h1 h2 w _ _ _ S2 S1 (by omega) (Nat.le_refl _) (by omega) BB (w.heap.size + 1 + 1) (by simp)
  clear hM S1 S2 e1 BB HS
  go_enter Tryd.func7, Tryd.ntmps7
  go_wp2_with fail
  go_region_with fail
  all_goals (go_wp2; go_ret2)
  all_goals first
    | (obtain ⟨⟨F, k1, k2⟩, k3⟩ := K1.out
       exact ⟨_, F, rfl, k1, k2, k3⟩)
    | (obtain ⟨⟨F, k1, k2⟩, k3⟩ := K2.out
       exact ⟨_, F, rfl, k1, k2, k3⟩)
end Go.Proofs.YtdcimnmebgkmjaaDoor
