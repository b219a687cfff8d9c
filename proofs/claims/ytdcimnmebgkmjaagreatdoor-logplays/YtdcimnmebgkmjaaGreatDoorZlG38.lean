/- Parts: LpC, LpD. -/
import Derived.Test.YtdcimnmebgkmjaaGreatDoorZlG37
namespace Go.Proofs.YtdcimnmebgkmjaaGreatDoor
open Go.RowKit Go.Proofs.Fd Go.Proofs.Dk Go.Proofs.Lg
set_option maxRecDepth 20000
def F9 (B A p d : Nat) (pl kl : Option Addr) (ak an : Int) (X T P : Value) (w' : World) : Prop :=
  w'.cell? ⟨B, 0, none⟩ = some (.pointer (some ⟨p, 0, none⟩)) ∧ w'.cell? ⟨B, 1, none⟩ = some (.pointer (some ⟨d, 0, none⟩)) ∧ w'.cell? ⟨B, 2, none⟩ = some (.pointer pl) ∧ w'.cell? ⟨B, 3, none⟩ = some (.pointer kl)
  ∧ w'.cell? ⟨A, 0, none⟩ = some (.int .i64 ak) ∧ w'.cell? ⟨A, 1, none⟩ = some (.int .i64 an) ∧ w'.cell? ⟨A, 2, none⟩ = some X ∧ w'.cell? ⟨A, 3, none⟩ = some T ∧ w'.cell? ⟨A, 4, none⟩ = some P
theorem F9.later {B A p d : Nat} {pl kl : Option Addr} {ak an : Int} {X T P : Value} {w w' : World} (h : F9 B A p d pl kl ak an X T P w) (hb : Below w.heap.size w w') : F9 B A p d pl kl ak an X T P w' := ⟨cell_later hb h.1, cell_later hb h.2.1, cell_later hb h.2.2.1, cell_later hb h.2.2.2.1, cell_later hb h.2.2.2.2.1, cell_later hb h.2.2.2.2.2.1, cell_later hb h.2.2.2.2.2.2.1, cell_later hb h.2.2.2.2.2.2.2.1, cell_later hb h.2.2.2.2.2.2.2.2⟩
theorem F9.drew {B A p d : Nat} {pl kl : Option Addr} {ak an : Int} {X T P : Value} {w : World} (h : F9 B A p d pl kl ak an X T P w) : F9 B A p d pl kl ak an X T P w.drew := h.later (Below.refl _ _).drew
section
variable (B A p d : Nat) (pl kl : Option Addr) (ak an : Int) (X : ByteArray) (ta : Option Addr) (tn tc : Nat) (pa : Option Addr) (pn pc : Nat) (PO : World → Prop) (Q0 Q1 : World → Prop) (wr : World)
set_option maxHeartbeats 2000000 in
theorem lp_fuse (hA : wr.heap.size = A) (e1 : Int)
    (AM : Hid (∀ w, Calls Tryz.prog 30 #[.int .i64 ak, .int .i64 6] w fun e w' => e = .returned (.int .i64 3) ∧ w' = w))
    (D0 : Hid (∀ W, Q0 W → Q0 W.drew))
    (K0 : Hid (Q0 (wr.alloc (.cells #[.int .i64 ak, .int .i64 an, .string X, .slice ta tn tc, .slice pa pn pc] 40)) ∧ F9 B A p d pl kl ak an (.string X) (.slice ta tn tc) (.slice pa pn pc) (wr.alloc (.cells #[.int .i64 ak, .int .i64 an, .string X, .slice ta tn tc, .slice pa pn pc] 40))))
    (C1 : Hid (∀ W, Q0 W → Calls Tryz.prog 31 #[.pointer (some ⟨p, 0, none⟩), .int .i64 an] W fun e w1 => e = .returned (.int .i64 e1) ∧ F9 B A p d pl kl ak an (.string X) (.slice ta tn tc) (.slice pa pn pc) w1 ∧ Hid (Q1 w1)))
    (C2 : Hid (∀ W, Q1 W → Calls Tryz.prog 32 #[.pointer (some ⟨d, 0, none⟩), .int .i64 an] W fun e w1 => e = .returned (.int .i64 e1) ∧ F9 B A p d pl kl ak an (.string X) (.slice ta tn tc) (.slice pa pn pc) w1 ∧ Hid (PO w1))) :
    Calls Tryz.prog 10 #[.pointer (some ⟨B, 0, none⟩), .agg #[.int .i64 ak, .int .i64 an, .string X, .slice ta tn tc, .slice pa pn pc]] wr fun e w' => e = .returned (.bool true) ∧ PO w' := by
  obtain ⟨W1, hW1⟩ : ∃ W, wr.alloc (.cells #[.int .i64 ak, .int .i64 an, .string X, .slice ta tn tc, .slice pa pn pc] 40) = W := ⟨_, rfl⟩
  rw [hW1] at K0
  have K0d : Hid (Q0 W1.drew) := D0.out _ K0.out.1
  have f0 : F9 B A p d pl kl ak an (.string X) (.slice ta tn tc) (.slice pa pn pc) W1.drew := K0.out.2.drew
  have a0 := K0.out.2.2.2.2.2.1
  clear K0 D0
  go_enter Tryz.func10, Tryz.ntmps10
  go_wp2_with fail
  refine Calls.mono (AM.out _) ?_
  rintro e w1 ⟨rfl, rfl⟩
  clear hA hW1 AM
  go_wp2_with fail
  go_region_held3 (fun w' => w'.cell? ⟨B, 0, none⟩ = some (.pointer (some ⟨p, 0, none⟩)) ∧ w'.cell? ⟨B, 1, none⟩ = some (.pointer (some ⟨d, 0, none⟩)) ∧ w'.cell? ⟨B, 2, none⟩ = some (.pointer pl) ∧ w'.cell? ⟨B, 3, none⟩ = some (.pointer kl) ∧ w'.cell? ⟨A, 0, none⟩ = some (.int .i64 ak) ∧ w'.cell? ⟨A, 1, none⟩ = some (.int .i64 an) ∧ w'.cell? ⟨A, 2, none⟩ = some (.string X) ∧ w'.cell? ⟨A, 3, none⟩ = some (.slice ta tn tc) ∧ w'.cell? ⟨A, 4, none⟩ = some (.slice pa pn pc)) (first | exact f0 | assumption) (first | (go_at_call 31; refine Calls.mono (C1.out _ K0d.out) ?_; rintro e w2 ⟨rfl, f2, K2⟩) | (go_at_call 32; refine Calls.mono (C2.out _ K2.out) ?_; rintro e w3 ⟨rfl, f3, K3⟩))
  clear C1 C2 K0d K2 f0 f2 f3 a0
  go_wp2
  go_ret
  exact ⟨rfl, K3.out⟩
set_option maxHeartbeats 2000000 in
theorem lp_crash (hA : wr.heap.size = A)
    (AM : Hid (∀ w, Calls Tryz.prog 30 #[.int .i64 ak, .int .i64 6] w fun e w' => e = .returned (.int .i64 4) ∧ w' = w))
    (K0 : Hid (Q0 (wr.alloc (.cells #[.int .i64 ak, .int .i64 an, .string X, .slice ta tn tc, .slice pa pn pc] 40)) ∧ F9 B A p d pl kl ak an (.string X) (.slice ta tn tc) (.slice pa pn pc) (wr.alloc (.cells #[.int .i64 ak, .int .i64 an, .string X, .slice ta tn tc, .slice pa pn pc] 40))))
    (C1 : Hid (∀ W, Q0 W → Calls Tryz.prog 33 #[.pointer (some ⟨B, 0, none⟩), .slice pa pn pc] W fun e w1 => e = .returned (.bool true) ∧ PO w1)) :
    Calls Tryz.prog 10 #[.pointer (some ⟨B, 0, none⟩), .agg #[.int .i64 ak, .int .i64 an, .string X, .slice ta tn tc, .slice pa pn pc]] wr fun e w' => e = .returned (.bool true) ∧ PO w' := by
  obtain ⟨W1, hW1⟩ : ∃ W, wr.alloc (.cells #[.int .i64 ak, .int .i64 an, .string X, .slice ta tn tc, .slice pa pn pc] 40) = W := ⟨_, rfl⟩
  rw [hW1] at K0
  have P3 : Hid _ := C1.out _ K0.out.1
  obtain ⟨-, -, -, -, a0, a1, a2, a3, a4⟩ := K0.out.2
  clear K0 C1
  go_enter Tryz.func10, Tryz.ntmps10
  go_wp2_with fail
  refine Calls.mono (AM.out _) ?_
  rintro e w1 ⟨rfl, rfl⟩
  clear hA hW1 AM
  go_wp2_with fail
  refine Calls.mono P3.out ?_
  rintro e w10 ⟨rfl, h10⟩
  have FF : Hid _ := h10
  clear h10 P3
  go_wp2
  go_ret
  exact ⟨rfl, FF.out⟩
set_option maxHeartbeats 2000000 in
theorem lp_idle (hA : wr.heap.size = A) (m : Nat) (hm : m < 3) (dn : Bool) (hps : pl = none ↔ kl = none) (hdn : pl = none ∨ dn = true)
    (AM : Hid (∀ w, Calls Tryz.prog 30 #[.int .i64 ak, .int .i64 6] w fun e w' => e = .returned (.int .i64 (m : Int)) ∧ w' = w))
    (K0 : Hid ((wr.alloc (.cells #[.int .i64 ak, .int .i64 an, .string X, .slice ta tn tc, .slice pa pn pc] 40)).cell? ⟨d, 3, none⟩ = some (.bool dn) ∧ PO (wr.alloc (.cells #[.int .i64 ak, .int .i64 an, .string X, .slice ta tn tc, .slice pa pn pc] 40)) ∧ F9 B A p d pl kl ak an (.string X) (.slice ta tn tc) (.slice pa pn pc) (wr.alloc (.cells #[.int .i64 ak, .int .i64 an, .string X, .slice ta tn tc, .slice pa pn pc] 40)))) :
    Calls Tryz.prog 10 #[.pointer (some ⟨B, 0, none⟩), .agg #[.int .i64 ak, .int .i64 an, .string X, .slice ta tn tc, .slice pa pn pc]] wr fun e w' => e = .returned (.bool true) ∧ PO w' := by
  obtain ⟨W1, hW1⟩ : ∃ W, wr.alloc (.cells #[.int .i64 ak, .int .i64 an, .string X, .slice ta tn tc, .slice pa pn pc] 40) = W := ⟨_, rfl⟩
  rw [hW1] at K0
  have c5 := K0.out.1
  have FF : Hid (PO W1) := K0.out.2.1
  obtain ⟨b0, b1, b2, b3, a0, a1, a2, a3, a4⟩ := K0.out.2.2
  clear K0
  have g3 : ¬ (m : Int) = 3 := by omega
  have g4 : ¬ (m : Int) = 4 := by omega
  have g5 : ¬ (m : Int) = 5 := by omega
  obtain ⟨z, hz⟩ : ∃ z : Int, (m : Int) = z := ⟨_, rfl⟩
  rw [hz] at AM g3 g4 g5
  clear hz hm
  cases pl with
  | none =>
    obtain rfl : kl = none := hps.1 rfl
    clear hps hdn
    go_enter Tryz.func10, Tryz.ntmps10
    go_wp2_with fail
    refine Calls.mono (AM.out _) ?_
    rintro e w1 ⟨rfl, rfl⟩
    clear hA hW1 AM
    go_wp2
    go_ret
    exact ⟨rfl, FF.out⟩
  | some q1 =>
    obtain rfl : dn = true := hdn.resolve_left (by simp)
    cases kl with
    | none => exact absurd (hps.2 rfl) (by simp)
    | some q2 =>
      clear hps hdn
      go_enter Tryz.func10, Tryz.ntmps10
      go_wp2_with fail
      refine Calls.mono (AM.out _) ?_
      rintro e w1 ⟨rfl, rfl⟩
      clear hA hW1 AM
      go_wp2
      go_ret
      exact ⟨rfl, FF.out⟩
end
section
variable (B A p d : Nat) (q1 q2 : Addr) (ak an : Int) (X : ByteArray) (ta : Option Addr) (tn tc : Nat) (pa : Option Addr) (pn pc : Nat) (PO : World → Prop) (Q0 Q1 : World → Prop) (wr : World)
set_option maxHeartbeats 4000000 in
theorem lp_app (hA : wr.heap.size = A) (e1 : Int)
    (AM : Hid (∀ w, Calls Tryz.prog 30 #[.int .i64 ak, .int .i64 6] w fun e w' => e = .returned (.int .i64 0) ∧ w' = w))
    (D0 : Hid (∀ W, Q0 W → Q0 W.drew))
    (K0 : Hid ((wr.alloc (.cells #[.int .i64 ak, .int .i64 an, .string X, .slice ta tn tc, .slice pa pn pc] 40)).cell? ⟨d, 3, none⟩ = some (.bool false) ∧ Q0 (wr.alloc (.cells #[.int .i64 ak, .int .i64 an, .string X, .slice ta tn tc, .slice pa pn pc] 40)) ∧ F9 B A p d (some q1) (some q2) ak an (.string X) (.slice ta tn tc) (.slice pa pn pc) (wr.alloc (.cells #[.int .i64 ak, .int .i64 an, .string X, .slice ta tn tc, .slice pa pn pc] 40))))
    (C1 : Hid (∀ W, Q0 W → Calls Tryz.prog 21 #[.pointer (some q1), .string X] W fun e w1 => e = .returned (.int .i64 e1) ∧ F9 B A p d (some q1) (some q2) ak an (.string X) (.slice ta tn tc) (.slice pa pn pc) w1 ∧ Hid (Q1 w1)))
    (C2 : Hid (∀ W, Q1 W → Calls Tryz.prog 36 #[.pointer (some q2), .string X] W fun e w1 => e = .returned (.int .i64 e1) ∧ F9 B A p d (some q1) (some q2) ak an (.string X) (.slice ta tn tc) (.slice pa pn pc) w1 ∧ Hid (PO w1))) :
    Calls Tryz.prog 10 #[.pointer (some ⟨B, 0, none⟩), .agg #[.int .i64 ak, .int .i64 an, .string X, .slice ta tn tc, .slice pa pn pc]] wr fun e w' => e = .returned (.bool true) ∧ PO w' := by
  obtain ⟨W1, hW1⟩ : ∃ W, wr.alloc (.cells #[.int .i64 ak, .int .i64 an, .string X, .slice ta tn tc, .slice pa pn pc] 40) = W := ⟨_, rfl⟩
  rw [hW1] at K0
  have K0d : Hid (Q0 W1.drew) := D0.out _ K0.out.2.1
  have f0 : F9 B A p d (some q1) (some q2) ak an (.string X) (.slice ta tn tc) (.slice pa pn pc) W1.drew := K0.out.2.2.drew
  have c5 := K0.out.1
  obtain ⟨b0, b1, b2, b3, a0, a1, a2, a3, a4⟩ := K0.out.2.2
  clear K0 D0
  go_enter Tryz.func10, Tryz.ntmps10
  go_wp2_with fail
  refine Calls.mono (AM.out _) ?_
  rintro e w1 ⟨rfl, rfl⟩
  go_wp2_with fail
  refine Calls.mono (AM.out _) ?_
  rintro e w1 ⟨rfl, rfl⟩
  clear hA hW1 AM
  go_wp2_with fail
  go_region_held3 (fun w' => w'.cell? ⟨B, 0, none⟩ = some (.pointer (some ⟨p, 0, none⟩)) ∧ w'.cell? ⟨B, 1, none⟩ = some (.pointer (some ⟨d, 0, none⟩)) ∧ w'.cell? ⟨B, 2, none⟩ = some (.pointer (some q1)) ∧ w'.cell? ⟨B, 3, none⟩ = some (.pointer (some q2)) ∧ w'.cell? ⟨A, 0, none⟩ = some (.int .i64 ak) ∧ w'.cell? ⟨A, 1, none⟩ = some (.int .i64 an) ∧ w'.cell? ⟨A, 2, none⟩ = some (.string X) ∧ w'.cell? ⟨A, 3, none⟩ = some (.slice ta tn tc) ∧ w'.cell? ⟨A, 4, none⟩ = some (.slice pa pn pc)) (first | exact f0 | assumption) (first | (go_at_call 21; refine Calls.mono (C1.out _ K0d.out) ?_; rintro e w2 ⟨rfl, f2, K2⟩) | (go_at_call 36; refine Calls.mono (C2.out _ K2.out) ?_; rintro e w3 ⟨rfl, f3, K3⟩))
  clear C1 C2 K0d K2 f0 f2 f3 a0 a1 a2 a3 a4 b0 b1 b2 b3 c5
  go_wp2
  go_ret
  exact ⟨rfl, K3.out⟩
set_option maxHeartbeats 4000000 in
theorem lp_sync (hA : wr.heap.size = A) (e1 : Int)
    (AM : Hid (∀ w, Calls Tryz.prog 30 #[.int .i64 ak, .int .i64 6] w fun e w' => e = .returned (.int .i64 1) ∧ w' = w))
    (D0 : Hid (∀ W, Q0 W → Q0 W.drew))
    (K0 : Hid ((wr.alloc (.cells #[.int .i64 ak, .int .i64 an, .string X, .slice ta tn tc, .slice pa pn pc] 40)).cell? ⟨d, 3, none⟩ = some (.bool false) ∧ Q0 (wr.alloc (.cells #[.int .i64 ak, .int .i64 an, .string X, .slice ta tn tc, .slice pa pn pc] 40)) ∧ F9 B A p d (some q1) (some q2) ak an (.string X) (.slice ta tn tc) (.slice pa pn pc) (wr.alloc (.cells #[.int .i64 ak, .int .i64 an, .string X, .slice ta tn tc, .slice pa pn pc] 40))))
    (C1 : Hid (∀ W, Q0 W → Calls Tryz.prog 22 #[.pointer (some q1)] W fun e w1 => e = .returned (.int .i64 e1) ∧ F9 B A p d (some q1) (some q2) ak an (.string X) (.slice ta tn tc) (.slice pa pn pc) w1 ∧ Hid (Q1 w1)))
    (C2 : Hid (∀ W, Q1 W → Calls Tryz.prog 37 #[.pointer (some ⟨d, 0, none⟩)] W fun e w1 => e = .returned (.int .i64 e1) ∧ F9 B A p d (some q1) (some q2) ak an (.string X) (.slice ta tn tc) (.slice pa pn pc) w1 ∧ Hid (PO w1))) :
    Calls Tryz.prog 10 #[.pointer (some ⟨B, 0, none⟩), .agg #[.int .i64 ak, .int .i64 an, .string X, .slice ta tn tc, .slice pa pn pc]] wr fun e w' => e = .returned (.bool true) ∧ PO w' := by
  obtain ⟨W1, hW1⟩ : ∃ W, wr.alloc (.cells #[.int .i64 ak, .int .i64 an, .string X, .slice ta tn tc, .slice pa pn pc] 40) = W := ⟨_, rfl⟩
  rw [hW1] at K0
  have K0d : Hid (Q0 W1.drew) := D0.out _ K0.out.2.1
  have f0 : F9 B A p d (some q1) (some q2) ak an (.string X) (.slice ta tn tc) (.slice pa pn pc) W1.drew := K0.out.2.2.drew
  have c5 := K0.out.1
  obtain ⟨b0, b1, b2, b3, a0, a1, a2, a3, a4⟩ := K0.out.2.2
  clear K0 D0
  go_enter Tryz.func10, Tryz.ntmps10
  go_wp2_with fail
  refine Calls.mono (AM.out _) ?_
  rintro e w1 ⟨rfl, rfl⟩
  go_wp2_with fail
  refine Calls.mono (AM.out _) ?_
  rintro e w1 ⟨rfl, rfl⟩
  clear hA hW1 AM
  go_wp2_with fail
  go_region_held3 (fun w' => w'.cell? ⟨B, 0, none⟩ = some (.pointer (some ⟨p, 0, none⟩)) ∧ w'.cell? ⟨B, 1, none⟩ = some (.pointer (some ⟨d, 0, none⟩)) ∧ w'.cell? ⟨B, 2, none⟩ = some (.pointer (some q1)) ∧ w'.cell? ⟨B, 3, none⟩ = some (.pointer (some q2)) ∧ w'.cell? ⟨A, 0, none⟩ = some (.int .i64 ak) ∧ w'.cell? ⟨A, 1, none⟩ = some (.int .i64 an) ∧ w'.cell? ⟨A, 2, none⟩ = some (.string X) ∧ w'.cell? ⟨A, 3, none⟩ = some (.slice ta tn tc) ∧ w'.cell? ⟨A, 4, none⟩ = some (.slice pa pn pc)) (first | exact f0 | assumption) (first | (go_at_call 22; refine Calls.mono (C1.out _ K0d.out) ?_; rintro e w2 ⟨rfl, f2, K2⟩) | (go_at_call 37; refine Calls.mono (C2.out _ K2.out) ?_; rintro e w3 ⟨rfl, f3, K3⟩))
  clear C1 C2 K0d K2 f0 f2 f3 a0 a1 a2 a3 a4 b0 b1 b2 b3 c5
  go_wp2
  go_ret
  exact ⟨rfl, K3.out⟩
end
end Go.Proofs.YtdcimnmebgkmjaaGreatDoor
namespace Go.Proofs.YtdcimnmebgkmjaaGreatDoor
open Go.RowKit Go.Proofs.Fd Go.Proofs.Dk Go.Proofs.Lg
set_option maxRecDepth 20000
theorem gmade_zeros (n : Nat) : madeCells (Value.int .u8 0).cells (n * 1) = Array.replicate n (.int .u8 0) := by
  apply Array.ext
  · rw [size_madeCells, Array.size_replicate, Nat.mul_one]
  · intro i h1 h2
    rw [Array.getElem_replicate]
    simp [madeCells, Value.cells, Nat.mod_one]
theorem gmake_n (n : Nat) (hn : n ≤ 140737488355328) (w : World) : ∃ W : World, (Instr.makeSlice 68 (.int .i64 (n : Int)) (.int .i64 (n : Int))).run Tryz.prog w = .ok (.slice (some ⟨w.heap.size, 0, none⟩) n n) W
    ∧ BytesAt W w.heap.size (List.replicate n 0) ∧ Below w.heap.size w W ∧ w.heap.size < W.heap.size := by
  obtain ⟨i0, hi, hz0, hz1, hz2⟩ := info_parts infoByte
  have h := run_make (P := Tryz.prog) w 68 5 i0 (.int .u8 0) Tryz.underlying68 hi hz0 .i64 .i64 (n : Int) (n : Int) (by omega) (Int.le_refl _) (by rw [hz2]; omega) (by omega)
  rw [Int.toNat_natCast, hz1, gmade_zeros] at h
  refine ⟨_, h, fun j hj => ?_, (Below.refl _ _).alloc (Nat.le_refl _) _, by simp⟩
  have hj' : j < n := by simpa using hj
  refine ⟨?_, by simp [go_sem]⟩
  rw [World.cell?_alloc_new, List.getElem_replicate, Array.getElem?_replicate, if_pos hj']
  rfl
theorem gcopy_at (w : World) (b o n cap : Nat) (s : ByteArray) (m : Nat) (hm : Nat.min s.size n = m)
    (hc : ∀ j, j < n → (w.cell? ⟨b, o + j, none⟩).isSome = true) (hf : ∀ j, j < n → w.frozen? ⟨b, o + j, none⟩ = false) :
    (Builtin.copy_ #[68, 9] 3 #[.slice (some ⟨b, o, none⟩) n cap, .string s]).run Tryz.prog w = .ok (.int .i64 (m : Int)) (w.setCells b o ((s.data.toList.take m).map fun x => Value.int .u8 (x.toNat : Int))) := by
  have hmn : m ≤ n := by rw [← hm]; exact Nat.min_le_right _ _
  have hms : m ≤ s.size := by rw [← hm]; exact Nat.min_le_left _ _
  have hl : ((s.data.toList.take m).map fun x => Value.int .u8 (x.toNat : Int)).length = m := by
    rw [List.length_map, List.length_take]
    have : s.data.toList.length = s.size := by simp
    omega
  have hst := run_storeCells_cells (P := Tryz.prog) b o ((s.data.toList.take m).map fun x => Value.int .u8 (x.toNat : Int)) 0 w
    (by rw [hl]; intro j hj; simpa using hc j (by omega)) (by rw [hl]; intro j hj; simpa using hf j (by omega))
    (by intro v hv; obtain ⟨x, _, rfl⟩ := List.mem_map.1 hv; rfl)
  simp [Builtin.copy_, run_underlying Tryz.underlying68, Builtin.lenOf, Builtin.firstCells, hm]
  rw [← List.map_take, hst]
  rfl
theorem BytesAt.gcopied {w : World} {b : Nat} {l : List UInt8} (h : BytesAt w b l) (o : Nat) (xs : List UInt8) (hx : o + xs.length ≤ l.length) :
    BytesAt (w.setCells b o (xs.map fun x => Value.int .u8 (x.toNat : Int))) b (l.take o ++ xs ++ l.drop (o + xs.length)) := fun j hj => by
  have hj' : j < l.length := by rw [List.length_append, List.length_append, List.length_take, List.length_drop] at hj; omega
  obtain ⟨h0, h1⟩ := h j hj'
  refine ⟨?_, by rw [World.frozen?_setCells]; exact h1⟩
  have key := List.getElem?_eq_getElem hj
  generalize (l.take o ++ xs ++ l.drop (o + xs.length))[j] = v at key ⊢
  by_cases hlo : j < o
  · rw [World.cell?_setCells_out b _ o w _ (fun _ _ => .inl hlo), h0]
    rw [List.append_assoc, List.getElem?_append_left (by rw [List.length_take]; omega), List.getElem?_take_of_lt hlo, List.getElem?_eq_getElem hj'] at key
    rw [Option.some.inj key]
  · by_cases hhi : j < o + xs.length
    · have hx2 : j - o < xs.length := by omega
      have := World.cell?_setCells_in b (xs.map fun x => Value.int .u8 (x.toNat : Int)) o w (fun i hi => by
        rw [List.length_map] at hi
        rw [(h (o + i) (by omega)).1]; rfl) (j - o) (by rw [List.length_map]; exact hx2)
      rw [show o + (j - o) = j by omega] at this
      rw [List.append_assoc, List.getElem?_append_right (by rw [List.length_take]; omega), List.length_take, Nat.min_eq_left (by omega), List.getElem?_append_left hx2, List.getElem?_eq_getElem hx2] at key
      rw [this, List.getElem_map, Option.some.inj key]
    · rw [World.cell?_setCells_out b _ o w _ (fun _ _ => .inr (by rw [List.length_map]; show o + xs.length ≤ j; omega)), h0]
      rw [List.getElem?_append_right (by rw [List.length_append, List.length_take]; omega), List.length_append, List.length_take, Nat.min_eq_left (by omega), List.getElem?_drop, show o + xs.length + (j - (o + xs.length)) = j by omega, List.getElem?_eq_getElem hj'] at key
      rw [Option.some.inj key]
def sct (X : ByteArray) : Bs := X.data.toList.take (Nat.min X.size 64) ++ (List.replicate 64 (0 : UInt8)).drop (Nat.min X.size 64)
theorem sct_len (X : ByteArray) : (sct X).length = 64 := by
  have h : X.data.toList.length = X.size := by simp
  have h1 : Nat.min X.size 64 ≤ X.size := Nat.min_le_left _ _
  have h2 : Nat.min X.size 64 ≤ 64 := Nat.min_le_right _ _
  unfold sct
  rw [List.length_append, List.length_take, List.length_drop, List.length_replicate]
  omega
theorem sct_made (X : ByteArray) (w : World) : ∃ (W2 W3 : World), (Instr.makeSlice 68 (.int .i64 64) (.int .i64 64)).run Tryz.prog w = .ok (.slice (some ⟨w.heap.size, 0, none⟩) 64 64) W2
    ∧ (Builtin.copy_ #[68, 9] 3 #[.slice (some ⟨w.heap.size, 0, none⟩) 64 64, .string X]).run Tryz.prog W2 = .ok (.int .i64 (Nat.min X.size 64 : Nat)) W3
    ∧ BytesAt W3 w.heap.size (sct X) ∧ Below w.heap.size w W2 ∧ Below w.heap.size w W3 ∧ w.heap.size < W3.heap.size := by
  obtain ⟨W2, h1, h2, h3, h4⟩ := gmake_n 64 (by decide) w
  have hl : (X.data.toList.take (Nat.min X.size 64)).length = Nat.min X.size 64 := by
    rw [List.length_take]
    have h : X.data.toList.length = X.size := by simp
    have : Nat.min X.size 64 ≤ X.size := Nat.min_le_left _ _
    omega
  have hm : Nat.min X.size 64 ≤ 64 := Nat.min_le_right _ _
  have CP := gcopy_at W2 w.heap.size 0 64 64 X _ rfl (fun j hj => by rw [(h2 (0 + j) (by simpa using hj)).1]; rfl) (fun j hj => (h2 (0 + j) (by simpa using hj)).2)
  have BF := h2.gcopied 0 (X.data.toList.take (Nat.min X.size 64)) (by rw [hl]; simpa using hm)
  refine ⟨W2, _, h1, CP, ?_, h3, below_sets (Nat.le_refl _) _ _ h3, ?_⟩
  · rw [hl, List.take_zero, List.nil_append, Nat.zero_add] at BF
    exact BF
  · exact Nat.lt_of_lt_of_le h4 (Bf.sets (fun _ => True) w.heap.size trivial _ 0 W2).size
section
variable (B A S p d : Nat) (pl kl : Option Addr) (ak an : Int) (X : ByteArray) (ta : Option Addr) (tn tc : Nat) (pa : Option Addr) (pn pc : Nat) (PO : World → Prop) (Q0 Q1 Q2 : World → Prop) (wr : World)
set_option maxHeartbeats 4000000 in
theorem lp_foreign (hA : wr.heap.size = A) (e1 m : Int) (T : ByteArray) (W1 W2 W3 : World) (hW1 : wr.alloc (.cells #[.int .i64 ak, .int .i64 an, .string X, .slice ta tn tc, .slice pa pn pc] 40) = W1)
    (AM : Hid (∀ w, Calls Tryz.prog 30 #[.int .i64 ak, .int .i64 6] w fun e w' => e = .returned (.int .i64 5) ∧ w' = w))
    (MK : (Instr.makeSlice 68 (.int .i64 64) (.int .i64 64)).run Tryz.prog W1 = .ok (.slice (some ⟨S, 0, none⟩) 64 64) W2)
    (CP : (Builtin.copy_ #[68, 9] 3 #[.slice (some ⟨S, 0, none⟩) 64 64, .string X]).run Tryz.prog W2 = .ok (.int .i64 m) W3)
    (x0 : W1.cell? ⟨A, 0, none⟩ = some (.int .i64 ak)) (x2 : W2.cell? ⟨A, 2, none⟩ = some (.string X))
    (K0 : Hid (Q0 W3.drew))
    (G0 : ∀ W, Q0 W → F9 B A p d pl kl ak an (.string X) (.slice ta tn tc) (.slice pa pn pc) W ∧ (convert 68 9 (.slice (some ⟨S, 0, none⟩) 64 64)).run Tryz.prog W = .ok (.string T) W)
    (G1 : ∀ W, Q1 W → F9 B A p d pl kl ak an (.string X) (.slice ta tn tc) (.slice pa pn pc) W ∧ (convert 68 9 (.slice (some ⟨S, 0, none⟩) 64 64)).run Tryz.prog W = .ok (.string T) W)
    (G2 : ∀ W, Q2 W → F9 B A p d pl kl ak an (.string X) (.slice ta tn tc) (.slice pa pn pc) W ∧ (convert 68 9 (.slice (some ⟨S, 0, none⟩) 64 64)).run Tryz.prog W = .ok (.string T) W)
    (C1 : Hid (∀ W, Q0 W → Calls Tryz.prog 34 #[.pointer (some ⟨p, 0, none⟩), .int .i64 an, .string T] W fun e w1 => e = .returned (.int .i64 e1) ∧ Hid (Q1 w1)))
    (C2 : Hid (∀ W, Q1 W → Calls Tryz.prog 35 #[.pointer (some ⟨d, 0, none⟩), .int .i64 an, .string T] W fun e w1 => e = .returned (.int .i64 e1) ∧ Hid (Q2 w1)))
    (C3 : Hid (∀ W, Q2 W → Calls Tryz.prog 33 #[.pointer (some ⟨B, 0, none⟩), .slice (some ⟨W.heap.size, 0, none⟩) 4 4] (W.alloc (.cells #[.int .i64 64, .int .i64 64, .int .i64 64, .int .i64 64] 3)) fun e w1 => e = .returned (.bool true) ∧ PO w1)) :
    Calls Tryz.prog 10 #[.pointer (some ⟨B, 0, none⟩), .agg #[.int .i64 ak, .int .i64 an, .string X, .slice ta tn tc, .slice pa pn pc]] wr fun e w' => e = .returned (.bool true) ∧ PO w' := by
  obtain ⟨f0, v0⟩ := G0 _ K0.out
  go_enter Tryz.func10, Tryz.ntmps10
  go_wp2_with fail
  refine Calls.mono (AM.out _) ?_
  rintro e w1 ⟨rfl, rfl⟩
  clear hA hW1 AM
  go_wp2_with fail
  go_region_held3 (fun w' => (w'.cell? ⟨B, 0, none⟩ = some (.pointer (some ⟨p, 0, none⟩)) ∧ w'.cell? ⟨B, 1, none⟩ = some (.pointer (some ⟨d, 0, none⟩)) ∧ w'.cell? ⟨B, 2, none⟩ = some (.pointer pl) ∧ w'.cell? ⟨B, 3, none⟩ = some (.pointer kl) ∧ w'.cell? ⟨A, 0, none⟩ = some (.int .i64 ak) ∧ w'.cell? ⟨A, 1, none⟩ = some (.int .i64 an) ∧ w'.cell? ⟨A, 2, none⟩ = some (.string X) ∧ w'.cell? ⟨A, 3, none⟩ = some (.slice ta tn tc) ∧ w'.cell? ⟨A, 4, none⟩ = some (.slice pa pn pc)) ∧ (convert 68 9 (.slice (some ⟨S, 0, none⟩) 64 64)).run Tryz.prog w' = .ok (.string T) w') (first | exact ⟨f0, v0⟩ | assumption | exact G1 _ K2.out | exact G2 _ K3.out) (first | (go_at_call 34; refine Calls.mono (C1.out _ K0.out) ?_; rintro e w2 ⟨rfl, K2⟩) | (go_at_call 35; refine Calls.mono (C2.out _ K2.out) ?_; rintro e w3 ⟨rfl, K3⟩))
  have P3 : Hid _ := C3.out _ K3.out
  clear C1 C2 C3 K0 K2 K3 f0 v0 G0 G1 G2 MK CP x0 x2
  obtain ⟨W4, hW4⟩ : ∃ W, w3.alloc (.cells #[.int .i64 64, .int .i64 64, .int .i64 64, .int .i64 64] 3) = W := ⟨_, rfl⟩
  rw [hW4] at P3
  obtain ⟨K, hK⟩ : ∃ K, w3.heap.size = K := ⟨_, rfl⟩
  rw [hK] at P3
  go_wp2_with fail
  refine Calls.mono P3.out ?_
  rintro e w10 ⟨rfl, h10⟩
  have FF : Hid _ := h10
  clear h10 P3 hK hW4
  go_wp2
  go_ret
  exact ⟨rfl, FF.out⟩
end
theorem gcopy_tx (w : World) (a : Option Addr) (n c : Nat) (l : List Bs) (hn : l.length = n) (hl : n * 16 ≤ 140737488355328) (tx : TxAt w a l) :
    ∃ a1 c1 w1, (Builtin.append_ #[37, 37] 37 #[.slice (some ⟨w.heap.size, 0, none⟩) 0 0, .slice a n c]).run Tryz.prog (w.alloc (.cells #[] 9)) = .ok (.slice a1 n c1) w1 ∧ TxAt w1 a1 l ∧ Below w.heap.size w w1 ∧ (∀ x, a1 = some x → w.heap.size ≤ x.block) := by
  obtain ⟨i0, hi, hz0, hz1, hz2⟩ := info_parts infoS
  have hb0 : Below w.heap.size w (w.alloc (.cells #[] 9)) := nb w _
  have o0 : (w.alloc (.cells #[] 9)).ownsRow w.heap.size 9 1 (.slice (some ⟨w.heap.size, 0, none⟩) 0 0) 0 [] := World.ownsRow_made (base := w.heap.size) (e := 9) (size := 1) w #[] 0 (Nat.le_refl _) (Nat.zero_le _) rfl
  have fin : ∀ {v1 : Value} {w1 : World}, w1.ownsRow w.heap.size 9 1 v1 n (scs l) → ∃ a1 c1, v1 = .slice a1 n c1 ∧ TxAt w1 a1 l ∧ (∀ x, a1 = some x → w.heap.size ≤ x.block) := fun {v1 w1} o => by
    obtain ⟨a1, c1, e, t, -⟩ := owns_tx hn o
    refine ⟨a1, c1, e, t, fun x hx => ?_⟩
    subst e
    rcases o.2 with ⟨e, -⟩ | ⟨g, cap, cur, e, hg, -⟩
    · injection e with e1 e2 e3
      rw [e1] at hx
      cases hx
    · injection e with e1 e2 e3
      rw [e1] at hx
      injection hx with hx
      rw [← hx]
      exact hg
  cases a with
  | none =>
    have h0 : l = [] := by
      cases l with
      | nil => rfl
      | cons k r => obtain ⟨b, o, e, -⟩ := tx 0 (by simp); cases e
    subst h0
    have hn0 : n = 0 := hn.symm
    subst hn0
    obtain ⟨a1, c1, e, t, z⟩ := fin (show (w.alloc (.cells #[] 9)).ownsRow w.heap.size 9 1 _ 0 (scs []) from o0)
    refine ⟨a1, c1, _, ?_, t, hb0, z⟩
    rw [← e]
    simp [Builtin.append_, run_underlying Tryz.underlying37, sizeOf, typeInfo, hi, Builtin.lenOf, Builtin.firstCells, storeCells]
  | some ad =>
    obtain ⟨v', w', r1, r2, r3, -, -⟩ := run_append_own_at (P := Tryz.prog) _ w.heap.size 37 37 9 i0 _ 1 16 Tryz.underlying37 hi hz0 hz1 hz2 rfl (by decide) _ 0 [] o0 ad n c (scs l) (by rw [scs_len, hn, Nat.mul_one]) (fun j u hj => by
      have hj' : j < l.length := by
        have := (List.getElem?_eq_some_iff.1 hj).1
        simpa [scs] using this
      obtain ⟨b, o, e, hc⟩ := (tx.later hb0) j hj'
      obtain rfl := Option.some.inj e
      rw [Addr.add_mid, hc]
      simp [scs, hj'] at hj
      rw [hj]) (scs_one l) (by unfold maxLen; omega) (by omega) (by simp)
    rw [Nat.zero_add, List.nil_append] at r2
    obtain ⟨a1, c1, rfl, t, z⟩ := fin r2
    exact ⟨a1, c1, w', r1, t, hb0.grown r3 (by simp) (fun k hk => (o0.lt k hk).1), z⟩
section
variable (B A p d : Nat) (q1 q2 : Addr) (ak an : Int) (X : ByteArray) (ta : Option Addr) (tn tc : Nat) (pa : Option Addr) (pn pc : Nat) (PO : World → Prop) (Q0 Q1 Q2 : World → Prop) (wr : World)
set_option maxHeartbeats 4000000 in
theorem lp_comp (hA : wr.heap.size = A) (e1 : Int) (oa : Option Addr) (oc : Nat) (W1 W2 : World) (hW1 : wr.alloc (.cells #[.int .i64 ak, .int .i64 an, .string X, .slice ta tn tc, .slice pa pn pc] 40) = W1)
    (AM : Hid (∀ w, Calls Tryz.prog 30 #[.int .i64 ak, .int .i64 6] w fun e w' => e = .returned (.int .i64 2) ∧ w' = w))
    (AP : (Builtin.append_ #[37, 37] 37 #[.slice (some ⟨W1.heap.size, 0, none⟩) 0 0, .slice ta tn tc]).run Tryz.prog (W1.alloc (.cells #[] 9)) = .ok (.slice oa tn oc) W2)
    (c5 : W1.cell? ⟨d, 3, none⟩ = some (.bool false)) (F1 : F9 B A p d (some q1) (some q2) ak an (.string X) (.slice ta tn tc) (.slice pa pn pc) W1) (c3 : (W1.alloc (.cells #[] 9)).cell? ⟨A, 3, none⟩ = some (.slice ta tn tc))
    (K0 : Hid (Q0 W2.drew)) (G0 : ∀ W, Q0 W → F9 B A p d (some q1) (some q2) ak an (.string X) (.slice ta tn tc) (.slice pa pn pc) W) (G1 : ∀ W, Q1 W → F9 B A p d (some q1) (some q2) ak an (.string X) (.slice ta tn tc) (.slice pa pn pc) W) (G2 : ∀ W, Q2 W → F9 B A p d (some q1) (some q2) ak an (.string X) (.slice ta tn tc) (.slice pa pn pc) W)
    (C1 : Hid (∀ W, Q0 W → Calls Tryz.prog 38 #[.pointer (some q1), .slice oa tn oc] W fun e w1 => e = .returned (.int .i64 e1) ∧ Hid (Q1 w1)))
    (C2 : Hid (∀ W, Q1 W → Calls Tryz.prog 39 #[.pointer (some q2), .slice ta tn tc] W fun e w1 => e = .returned (.int .i64 e1) ∧ Hid (Q2 w1)))
    (C3 : Hid (∀ W, Q2 W → Calls Tryz.prog 15 #[.slice oa tn oc, .slice ta tn tc] W fun e w1 => e = .returned (.bool true) ∧ Below W.heap.size W w1 ∧ PO w1)) :
    Calls Tryz.prog 10 #[.pointer (some ⟨B, 0, none⟩), .agg #[.int .i64 ak, .int .i64 an, .string X, .slice ta tn tc, .slice pa pn pc]] wr fun e w' => e = .returned (.bool true) ∧ PO w' := by
  have f0 := G0 _ K0.out
  have AP1 : Hid _ := AP
  obtain ⟨b0, b1, b2, b3, a0, a1, a2, a3, a4⟩ := F1
  go_enter Tryz.func10, Tryz.ntmps10
  go_wp2_with fail
  refine Calls.mono (AM.out _) ?_
  rintro e w1 ⟨rfl, rfl⟩
  go_wp2_with fail
  refine Calls.mono (AM.out _) ?_
  rintro e w1 ⟨rfl, rfl⟩
  clear hA hW1 AM AP
  go_wp2_with (at_builtin; refine Go.Lib.wpList_append_run _ rfl _ _ _ _ rfl _ _ rfl rfl _ _ AP1.out ?_)
  go_wp2_with fail
  clear AP1 c3 c5 a0 a1 a2 a3 a4 b0 b1 b2 b3
  go_region_held3 (fun w' => w'.cell? ⟨B, 0, none⟩ = some (.pointer (some ⟨p, 0, none⟩)) ∧ w'.cell? ⟨B, 1, none⟩ = some (.pointer (some ⟨d, 0, none⟩)) ∧ w'.cell? ⟨B, 2, none⟩ = some (.pointer (some q1)) ∧ w'.cell? ⟨B, 3, none⟩ = some (.pointer (some q2)) ∧ w'.cell? ⟨A, 0, none⟩ = some (.int .i64 ak) ∧ w'.cell? ⟨A, 1, none⟩ = some (.int .i64 an) ∧ w'.cell? ⟨A, 2, none⟩ = some (.string X) ∧ w'.cell? ⟨A, 3, none⟩ = some (.slice ta tn tc) ∧ w'.cell? ⟨A, 4, none⟩ = some (.slice pa pn pc)) (first | exact f0 | assumption | exact G1 _ K2.out | exact G2 _ K3.out | exact F9.later (G2 _ K3.out) hb4) (first | (go_at_call 38; refine Calls.mono (C1.out _ K0.out) ?_; rintro e w2 ⟨rfl, K2⟩) | (go_at_call 39; refine Calls.mono (C2.out _ K2.out) ?_; rintro e w3 ⟨rfl, K3⟩) | (go_at_call 15; refine Calls.mono (C3.out _ K3.out) ?_; rintro e w4 ⟨rfl, hb4, h4⟩))
  have FF : Hid _ := h4
  clear C1 C2 C3 K0 K2 K3 f0 G0 G1 G2 hb4 h4
  go_wp2
  go_ret
  exact ⟨rfl, FF.out⟩
end
end Go.Proofs.YtdcimnmebgkmjaaGreatDoor
