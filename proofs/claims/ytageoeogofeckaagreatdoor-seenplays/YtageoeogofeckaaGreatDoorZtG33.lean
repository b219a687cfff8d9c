/- Parts: SyI, SzF, LsE. -/
import Derived.Test.YtageoeogofeckaaGreatDoorZtG32
import Derived.Test.YtageoeogofeckaaGreatDoorZtG30
import Derived.Test.YtageoeogofeckaaGreatDoorZtG21
namespace Go.Proofs.YtageoeogofeckaaGreatDoor
open Go.RowKit Go.Proofs.Fd Go.Proofs.Dk Go.Proofs.Lg
set_option maxRecDepth 20000
def F8 (B A p d : Nat) (ps pk : Option Addr) (ak an : Int) (X P : Value) (w' : World) : Prop :=
  w'.cell? ⟨B, 1, none⟩ = some (.pointer (some ⟨p, 0, none⟩)) ∧ w'.cell? ⟨B, 2, none⟩ = some (.pointer (some ⟨d, 0, none⟩)) ∧ w'.cell? ⟨B, 3, none⟩ = some (.pointer ps) ∧ w'.cell? ⟨B, 4, none⟩ = some (.pointer pk)
  ∧ w'.cell? ⟨A, 0, none⟩ = some (.int .i64 ak) ∧ w'.cell? ⟨A, 1, none⟩ = some (.int .i64 an) ∧ w'.cell? ⟨A, 2, none⟩ = some X ∧ w'.cell? ⟨A, 3, none⟩ = some P
theorem F8.later {B A p d : Nat} {ps pk : Option Addr} {ak an : Int} {X P : Value} {w w' : World} (h : F8 B A p d ps pk ak an X P w) (hb : Below w.heap.size w w') : F8 B A p d ps pk ak an X P w' := ⟨cell_later hb h.1, cell_later hb h.2.1, cell_later hb h.2.2.1, cell_later hb h.2.2.2.1, cell_later hb h.2.2.2.2.1, cell_later hb h.2.2.2.2.2.1, cell_later hb h.2.2.2.2.2.2.1, cell_later hb h.2.2.2.2.2.2.2⟩
theorem F8.drew {B A p d : Nat} {ps pk : Option Addr} {ak an : Int} {X P : Value} {w : World} (h : F8 B A p d ps pk ak an X P w) : F8 B A p d ps pk ak an X P w.drew := h.later (Below.refl _ _).drew
section
variable (B A p d : Nat) (ps pk : Option Addr) (ak an : Int) (X : ByteArray) (pa : Option Addr) (pn pc : Nat) (PO : World → Prop) (Q0 Q1 Q2 : World → Prop) (wr : World)
set_option maxHeartbeats 2000000 in
theorem step_fuse (hA : wr.heap.size = A) (e1 : Int)
    (AM : Hid (∀ w, Calls Tryz.prog 20 #[.int .i64 ak, .int .i64 6] w fun e w' => e = .returned (.int .i64 3) ∧ w' = w))
    (D0 : Hid (∀ W, Q0 W → Q0 W.drew))
    (K0 : Hid (Q0 (wr.alloc (.cells #[.int .i64 ak, .int .i64 an, .string X, .slice pa pn pc] 39)) ∧ F8 B A p d ps pk ak an (.string X) (.slice pa pn pc) (wr.alloc (.cells #[.int .i64 ak, .int .i64 an, .string X, .slice pa pn pc] 39))))
    (C1 : Hid (∀ W, Q0 W → Calls Tryz.prog 21 #[.pointer (some ⟨p, 0, none⟩), .int .i64 an] W fun e w1 => e = .returned (.int .i64 e1) ∧ F8 B A p d ps pk ak an (.string X) (.slice pa pn pc) w1 ∧ Hid (Q1 w1)))
    (C2 : Hid (∀ W, Q1 W → Calls Tryz.prog 22 #[.pointer (some ⟨d, 0, none⟩), .int .i64 an] W fun e w1 => e = .returned (.int .i64 e1) ∧ F8 B A p d ps pk ak an (.string X) (.slice pa pn pc) w1 ∧ Hid (PO w1))) :
    Calls Tryz.prog 8 #[.pointer (some ⟨B, 0, none⟩), .agg #[.int .i64 ak, .int .i64 an, .string X, .slice pa pn pc]] wr fun e w' => e = .returned (.bool true) ∧ PO w' := by
  obtain ⟨W1, hW1⟩ : ∃ W, wr.alloc (.cells #[.int .i64 ak, .int .i64 an, .string X, .slice pa pn pc] 39) = W := ⟨_, rfl⟩
  rw [hW1] at K0
  have K0d : Hid (Q0 W1.drew) := D0.out _ K0.out.1
  have f0 : F8 B A p d ps pk ak an (.string X) (.slice pa pn pc) W1.drew := K0.out.2.drew
  have a0 := K0.out.2.2.2.2.2.1
  clear K0 D0
  go_enter Tryz.func8, Tryz.ntmps8
  go_wp2_with fail
  refine Calls.mono (AM.out _) ?_
  rintro e w1 ⟨rfl, rfl⟩
  clear hA hW1 AM
  go_wp2_with fail
  go_region_held3 (fun w' => w'.cell? ⟨B, 1, none⟩ = some (.pointer (some ⟨p, 0, none⟩)) ∧ w'.cell? ⟨B, 2, none⟩ = some (.pointer (some ⟨d, 0, none⟩)) ∧ w'.cell? ⟨B, 3, none⟩ = some (.pointer ps) ∧ w'.cell? ⟨B, 4, none⟩ = some (.pointer pk) ∧ w'.cell? ⟨A, 0, none⟩ = some (.int .i64 ak) ∧ w'.cell? ⟨A, 1, none⟩ = some (.int .i64 an) ∧ w'.cell? ⟨A, 2, none⟩ = some (.string X) ∧ w'.cell? ⟨A, 3, none⟩ = some (.slice pa pn pc)) (first | exact f0 | assumption) (first | (go_at_call 21; refine Calls.mono (C1.out _ K0d.out) ?_; rintro e w2 ⟨rfl, f2, K2⟩) | (go_at_call 22; refine Calls.mono (C2.out _ K2.out) ?_; rintro e w3 ⟨rfl, f3, K3⟩))
  clear C1 C2 K0d K2 f0 f2 f3 a0
  go_wp2
  go_ret
  exact ⟨rfl, K3.out⟩
set_option maxHeartbeats 2000000 in
theorem step_crash (hA : wr.heap.size = A)
    (AM : Hid (∀ w, Calls Tryz.prog 20 #[.int .i64 ak, .int .i64 6] w fun e w' => e = .returned (.int .i64 4) ∧ w' = w))
    (D0 : Hid (∀ W, Q0 W → Q0 W.drew)) (D1 : Hid (∀ W, Q1 W → Q1 W.drew))
    (K0 : Hid (Q0 (wr.alloc (.cells #[.int .i64 ak, .int .i64 an, .string X, .slice pa pn pc] 39)) ∧ F8 B A p d ps pk ak an (.string X) (.slice pa pn pc) (wr.alloc (.cells #[.int .i64 ak, .int .i64 an, .string X, .slice pa pn pc] 39))))
    (C1 : Hid (∀ W, Q0 W → Calls Tryz.prog 23 #[.pointer (some ⟨p, 0, none⟩), .slice pa pn pc] W fun e w1 => e = .returned (.int .i64 0) ∧ F8 B A p d ps pk ak an (.string X) (.slice pa pn pc) w1 ∧ Hid (Q1 w1)))
    (C2 : Hid (∀ W, Q1 W → Calls Tryz.prog 24 #[.pointer (some ⟨d, 0, none⟩), .slice pa pn pc] W fun e w1 => e = .returned (.int .i64 0) ∧ F8 B A p d ps pk ak an (.string X) (.slice pa pn pc) w1 ∧ Hid (Q2 w1)))
    (P1 : Hid (∀ W, Q2 W → Calls Tryz.prog 7 #[.pointer (some ⟨B, 0, none⟩)] W fun e w1 => e = .returned (.bool true) ∧ PO w1)) :
    Calls Tryz.prog 8 #[.pointer (some ⟨B, 0, none⟩), .agg #[.int .i64 ak, .int .i64 an, .string X, .slice pa pn pc]] wr fun e w' => e = .returned (.bool true) ∧ PO w' := by
  obtain ⟨W1, hW1⟩ : ∃ W, wr.alloc (.cells #[.int .i64 ak, .int .i64 an, .string X, .slice pa pn pc] 39) = W := ⟨_, rfl⟩
  rw [hW1] at K0
  have K0d : Hid (Q0 W1.drew) := D0.out _ K0.out.1
  have f0 : F8 B A p d ps pk ak an (.string X) (.slice pa pn pc) W1.drew := K0.out.2.drew
  have a0 := K0.out.2.2.2.2.2.1
  clear K0 D0
  go_enter Tryz.func8, Tryz.ntmps8
  go_wp2_with fail
  refine Calls.mono (AM.out _) ?_
  rintro e w1 ⟨rfl, rfl⟩
  clear hA hW1 AM
  go_wp2_with fail
  go_region_held3 (fun w' => w'.cell? ⟨B, 1, none⟩ = some (.pointer (some ⟨p, 0, none⟩)) ∧ w'.cell? ⟨B, 2, none⟩ = some (.pointer (some ⟨d, 0, none⟩)) ∧ w'.cell? ⟨B, 3, none⟩ = some (.pointer ps) ∧ w'.cell? ⟨B, 4, none⟩ = some (.pointer pk) ∧ w'.cell? ⟨A, 0, none⟩ = some (.int .i64 ak) ∧ w'.cell? ⟨A, 1, none⟩ = some (.int .i64 an) ∧ w'.cell? ⟨A, 2, none⟩ = some (.string X) ∧ w'.cell? ⟨A, 3, none⟩ = some (.slice pa pn pc)) (first | exact f0 | assumption) (first | (go_at_call 23; refine Calls.mono (C1.out _ K0d.out) ?_; rintro e w2 ⟨rfl, f2, K2⟩))
  have K2d : Hid (Q1 w2.drew) := D1.out _ K2.out
  have f2d := f2.drew
  clear C1 K0d f0 K2 f2 D1 a0
  go_wp2_with fail
  go_region_held3 (fun w' => w'.cell? ⟨B, 1, none⟩ = some (.pointer (some ⟨p, 0, none⟩)) ∧ w'.cell? ⟨B, 2, none⟩ = some (.pointer (some ⟨d, 0, none⟩)) ∧ w'.cell? ⟨B, 3, none⟩ = some (.pointer ps) ∧ w'.cell? ⟨B, 4, none⟩ = some (.pointer pk) ∧ w'.cell? ⟨A, 0, none⟩ = some (.int .i64 ak) ∧ w'.cell? ⟨A, 1, none⟩ = some (.int .i64 an) ∧ w'.cell? ⟨A, 2, none⟩ = some (.string X) ∧ w'.cell? ⟨A, 3, none⟩ = some (.slice pa pn pc)) (first | exact f2d | assumption) (first | (go_at_call 24; refine Calls.mono (C2.out _ K2d.out) ?_; rintro e w3 ⟨rfl, f3, K3⟩))
  have P3 : Hid _ := P1.out _ K3.out
  clear C2 K2d f2d K3 f3 P1
  go_wp2_with fail
  refine Calls.mono P3.out ?_
  rintro e w10 ⟨rfl, h10⟩
  have FF : Hid _ := h10
  clear h10 P3
  go_wp2
  go_ret
  exact ⟨rfl, FF.out⟩
set_option maxHeartbeats 2000000 in
theorem step_foreign (hA : wr.heap.size = A)
    (AM : Hid (∀ w, Calls Tryz.prog 20 #[.int .i64 ak, .int .i64 6] w fun e w' => e = .returned (.int .i64 5) ∧ w' = w))
    (K0 : Hid (Q0 (wr.alloc (.cells #[.int .i64 ak, .int .i64 an, .string X, .slice pa pn pc] 39)) ∧ F8 B A p d ps pk ak an (.string X) (.slice pa pn pc) (wr.alloc (.cells #[.int .i64 ak, .int .i64 an, .string X, .slice pa pn pc] 39))))
    (C1 : Hid (∀ W, Q0 W → Calls Tryz.prog 25 #[.pointer (some ⟨B, 0, none⟩), .agg #[.int .i64 ak, .int .i64 an, .string X, .slice pa pn pc]] W fun e w1 => e = .returned (.bool true) ∧ PO w1)) :
    Calls Tryz.prog 8 #[.pointer (some ⟨B, 0, none⟩), .agg #[.int .i64 ak, .int .i64 an, .string X, .slice pa pn pc]] wr fun e w' => e = .returned (.bool true) ∧ PO w' := by
  obtain ⟨W1, hW1⟩ : ∃ W, wr.alloc (.cells #[.int .i64 ak, .int .i64 an, .string X, .slice pa pn pc] 39) = W := ⟨_, rfl⟩
  rw [hW1] at K0
  have P3 : Hid _ := C1.out _ K0.out.1
  obtain ⟨-, -, -, -, a0, a1, a2, a3⟩ := K0.out.2
  clear K0 C1
  go_enter Tryz.func8, Tryz.ntmps8
  go_wp2_with fail
  refine Calls.mono (AM.out _) ?_
  rintro e w1 ⟨rfl, rfl⟩
  clear hA hW1 AM
  go_wp2_with fail
  refine Calls.mono P3.out ?_
  rintro e w10 ⟨rfl, h10⟩
  have FF : Hid _ := h10
  clear h10 P3
  go_wp2
  go_ret
  exact ⟨rfl, FF.out⟩
set_option maxHeartbeats 2000000 in
theorem step_idle (hA : wr.heap.size = A) (m : Nat) (hm : m < 3) (dn : Bool) (hps : ps = none ↔ pk = none) (hdn : ps = none ∨ dn = true)
    (AM : Hid (∀ w, Calls Tryz.prog 20 #[.int .i64 ak, .int .i64 6] w fun e w' => e = .returned (.int .i64 (m : Int)) ∧ w' = w))
    (K0 : Hid ((wr.alloc (.cells #[.int .i64 ak, .int .i64 an, .string X, .slice pa pn pc] 39)).cell? ⟨d, 3, none⟩ = some (.bool dn) ∧ PO (wr.alloc (.cells #[.int .i64 ak, .int .i64 an, .string X, .slice pa pn pc] 39)) ∧ F8 B A p d ps pk ak an (.string X) (.slice pa pn pc) (wr.alloc (.cells #[.int .i64 ak, .int .i64 an, .string X, .slice pa pn pc] 39)))) :
    Calls Tryz.prog 8 #[.pointer (some ⟨B, 0, none⟩), .agg #[.int .i64 ak, .int .i64 an, .string X, .slice pa pn pc]] wr fun e w' => e = .returned (.bool true) ∧ PO w' := by
  obtain ⟨W1, hW1⟩ : ∃ W, wr.alloc (.cells #[.int .i64 ak, .int .i64 an, .string X, .slice pa pn pc] 39) = W := ⟨_, rfl⟩
  rw [hW1] at K0
  have FF : Hid (PO W1) := K0.out.2.1
  have d3 := K0.out.1
  obtain ⟨-, b2, b3, b4, a0, -, -, -⟩ := K0.out.2.2
  clear K0
  have g3 : ¬ (m : Int) = 3 := by omega
  have g4 : ¬ (m : Int) = 4 := by omega
  have g5 : ¬ (m : Int) = 5 := by omega
  obtain ⟨y, hy⟩ : ∃ y : Int, (m : Int) = y := ⟨_, rfl⟩
  rw [hy] at AM g3 g4 g5
  clear hm hy
  cases ps with
  | none =>
    obtain rfl : pk = none := hps.1 rfl
    clear hps hdn
    go_enter Tryz.func8, Tryz.ntmps8
    go_wp2_with fail
    refine Calls.mono (AM.out _) ?_
    rintro e w1 ⟨rfl, rfl⟩
    clear hA hW1 AM
    go_wp2
    go_ret
    exact ⟨rfl, FF.out⟩
  | some q1 =>
    obtain rfl : dn = true := by
      rcases hdn with c | c
      · cases c
      · exact c
    cases pk with
    | none => exact absurd (hps.2 rfl) (by simp)
    | some q2 =>
      clear hps hdn
      go_enter Tryz.func8, Tryz.ntmps8
      go_wp2_with fail
      refine Calls.mono (AM.out _) ?_
      rintro e w1 ⟨rfl, rfl⟩
      clear hA hW1 AM
      go_wp2
      go_ret
      exact ⟨rfl, FF.out⟩
end
section
variable (B A p d : Nat) (q1 q2 : Addr) (ak an : Int) (X : ByteArray) (pa : Option Addr) (pn pc : Nat) (PO : World → Prop) (Q0 Q1 : World → Prop) (wr : World)
set_option maxHeartbeats 2000000 in
theorem step_add (hA : wr.heap.size = A) (e1 : Int)
    (AM : Hid (∀ w, Calls Tryz.prog 20 #[.int .i64 ak, .int .i64 6] w fun e w' => e = .returned (.int .i64 0) ∧ w' = w))
    (D0 : Hid (∀ W, Q0 W → Q0 W.drew))
    (K0 : Hid ((wr.alloc (.cells #[.int .i64 ak, .int .i64 an, .string X, .slice pa pn pc] 39)).cell? ⟨d, 3, none⟩ = some (.bool false) ∧ Q0 (wr.alloc (.cells #[.int .i64 ak, .int .i64 an, .string X, .slice pa pn pc] 39)) ∧ F8 B A p d (some q1) (some q2) ak an (.string X) (.slice pa pn pc) (wr.alloc (.cells #[.int .i64 ak, .int .i64 an, .string X, .slice pa pn pc] 39))))
    (C1 : Hid (∀ W, Q0 W → Calls Tryz.prog 16 #[.pointer (some q1), .string X] W fun e w1 => e = .returned (.int .i64 e1) ∧ F8 B A p d (some q1) (some q2) ak an (.string X) (.slice pa pn pc) w1 ∧ Hid (Q1 w1)))
    (C2 : Hid (∀ W, Q1 W → Calls Tryz.prog 26 #[.pointer (some q2), .string X] W fun e w1 => e = .returned (.int .i64 e1) ∧ F8 B A p d (some q1) (some q2) ak an (.string X) (.slice pa pn pc) w1 ∧ Hid (PO w1))) :
    Calls Tryz.prog 8 #[.pointer (some ⟨B, 0, none⟩), .agg #[.int .i64 ak, .int .i64 an, .string X, .slice pa pn pc]] wr fun e w' => e = .returned (.bool true) ∧ PO w' := by
  obtain ⟨W1, hW1⟩ : ∃ W, wr.alloc (.cells #[.int .i64 ak, .int .i64 an, .string X, .slice pa pn pc] 39) = W := ⟨_, rfl⟩
  rw [hW1] at K0
  have K0d : Hid (Q0 W1.drew) := D0.out _ K0.out.2.1
  have f0 : F8 B A p d (some q1) (some q2) ak an (.string X) (.slice pa pn pc) W1.drew := K0.out.2.2.drew
  have d3 := K0.out.1
  obtain ⟨-, b2, b3, b4, a0, -, -, -⟩ := K0.out.2.2
  clear K0 D0
  go_enter Tryz.func8, Tryz.ntmps8
  go_wp2_with fail
  refine Calls.mono (AM.out _) ?_
  rintro e w1 ⟨rfl, rfl⟩
  clear hA hW1
  go_wp2_with fail
  refine Calls.mono (AM.out _) ?_
  rintro e w1 ⟨rfl, rfl⟩
  clear AM
  go_wp2_with fail
  go_region_held3 (fun w' => w'.cell? ⟨B, 1, none⟩ = some (.pointer (some ⟨p, 0, none⟩)) ∧ w'.cell? ⟨B, 2, none⟩ = some (.pointer (some ⟨d, 0, none⟩)) ∧ w'.cell? ⟨B, 3, none⟩ = some (.pointer (some q1)) ∧ w'.cell? ⟨B, 4, none⟩ = some (.pointer (some q2)) ∧ w'.cell? ⟨A, 0, none⟩ = some (.int .i64 ak) ∧ w'.cell? ⟨A, 1, none⟩ = some (.int .i64 an) ∧ w'.cell? ⟨A, 2, none⟩ = some (.string X) ∧ w'.cell? ⟨A, 3, none⟩ = some (.slice pa pn pc)) (first | exact f0 | assumption) (first | (go_at_call 16; refine Calls.mono (C1.out _ K0d.out) ?_; rintro e w2 ⟨rfl, f2, K2⟩) | (go_at_call 26; refine Calls.mono (C2.out _ K2.out) ?_; rintro e w3 ⟨rfl, f3, K3⟩))
  clear C1 C2 K0d K2 f0 f2 f3 a0 b2 b3 b4 d3
  go_wp2
  go_ret
  exact ⟨rfl, K3.out⟩
set_option maxHeartbeats 2000000 in
theorem step_rot (hA : wr.heap.size = A) (e1 : Int)
    (AM : Hid (∀ w, Calls Tryz.prog 20 #[.int .i64 ak, .int .i64 6] w fun e w' => e = .returned (.int .i64 1) ∧ w' = w))
    (D0 : Hid (∀ W, Q0 W → Q0 W.drew))
    (K0 : Hid ((wr.alloc (.cells #[.int .i64 ak, .int .i64 an, .string X, .slice pa pn pc] 39)).cell? ⟨d, 3, none⟩ = some (.bool false) ∧ Q0 (wr.alloc (.cells #[.int .i64 ak, .int .i64 an, .string X, .slice pa pn pc] 39)) ∧ F8 B A p d (some q1) (some q2) ak an (.string X) (.slice pa pn pc) (wr.alloc (.cells #[.int .i64 ak, .int .i64 an, .string X, .slice pa pn pc] 39))))
    (C1 : Hid (∀ W, Q0 W → Calls Tryz.prog 17 #[.pointer (some q1)] W fun e w1 => e = .returned (.int .i64 e1) ∧ F8 B A p d (some q1) (some q2) ak an (.string X) (.slice pa pn pc) w1 ∧ Hid (Q1 w1)))
    (C2 : Hid (∀ W, Q1 W → Calls Tryz.prog 27 #[.pointer (some q2)] W fun e w1 => e = .returned (.int .i64 e1) ∧ F8 B A p d (some q1) (some q2) ak an (.string X) (.slice pa pn pc) w1 ∧ Hid (PO w1))) :
    Calls Tryz.prog 8 #[.pointer (some ⟨B, 0, none⟩), .agg #[.int .i64 ak, .int .i64 an, .string X, .slice pa pn pc]] wr fun e w' => e = .returned (.bool true) ∧ PO w' := by
  obtain ⟨W1, hW1⟩ : ∃ W, wr.alloc (.cells #[.int .i64 ak, .int .i64 an, .string X, .slice pa pn pc] 39) = W := ⟨_, rfl⟩
  rw [hW1] at K0
  have K0d : Hid (Q0 W1.drew) := D0.out _ K0.out.2.1
  have f0 : F8 B A p d (some q1) (some q2) ak an (.string X) (.slice pa pn pc) W1.drew := K0.out.2.2.drew
  have d3 := K0.out.1
  obtain ⟨-, b2, b3, b4, a0, -, -, -⟩ := K0.out.2.2
  clear K0 D0
  go_enter Tryz.func8, Tryz.ntmps8
  go_wp2_with fail
  refine Calls.mono (AM.out _) ?_
  rintro e w1 ⟨rfl, rfl⟩
  clear hA hW1
  go_wp2_with fail
  refine Calls.mono (AM.out _) ?_
  rintro e w1 ⟨rfl, rfl⟩
  clear AM
  go_wp2_with fail
  go_region_held3 (fun w' => w'.cell? ⟨B, 1, none⟩ = some (.pointer (some ⟨p, 0, none⟩)) ∧ w'.cell? ⟨B, 2, none⟩ = some (.pointer (some ⟨d, 0, none⟩)) ∧ w'.cell? ⟨B, 3, none⟩ = some (.pointer (some q1)) ∧ w'.cell? ⟨B, 4, none⟩ = some (.pointer (some q2)) ∧ w'.cell? ⟨A, 0, none⟩ = some (.int .i64 ak) ∧ w'.cell? ⟨A, 1, none⟩ = some (.int .i64 an) ∧ w'.cell? ⟨A, 2, none⟩ = some (.string X) ∧ w'.cell? ⟨A, 3, none⟩ = some (.slice pa pn pc)) (first | exact f0 | assumption) (first | (go_at_call 17; refine Calls.mono (C1.out _ K0d.out) ?_; rintro e w2 ⟨rfl, f2, K2⟩) | (go_at_call 27; refine Calls.mono (C2.out _ K2.out) ?_; rintro e w3 ⟨rfl, f3, K3⟩))
  clear C1 C2 K0d K2 f0 f2 f3 a0 b2 b3 b4 d3
  go_wp2
  go_ret
  exact ⟨rfl, K3.out⟩
set_option maxHeartbeats 2000000 in
theorem step_has (hA : wr.heap.size = A) (e1 : Bool)
    (AM : Hid (∀ w, Calls Tryz.prog 20 #[.int .i64 ak, .int .i64 6] w fun e w' => e = .returned (.int .i64 2) ∧ w' = w))
    (D0 : Hid (∀ W, Q0 W → Q0 W.drew))
    (K0 : Hid ((wr.alloc (.cells #[.int .i64 ak, .int .i64 an, .string X, .slice pa pn pc] 39)).cell? ⟨d, 3, none⟩ = some (.bool false) ∧ Q0 (wr.alloc (.cells #[.int .i64 ak, .int .i64 an, .string X, .slice pa pn pc] 39)) ∧ F8 B A p d (some q1) (some q2) ak an (.string X) (.slice pa pn pc) (wr.alloc (.cells #[.int .i64 ak, .int .i64 an, .string X, .slice pa pn pc] 39))))
    (C1 : Hid (∀ W, Q0 W → Calls Tryz.prog 18 #[.pointer (some q1), .string X] W fun e w1 => e = .returned (.bool e1) ∧ F8 B A p d (some q1) (some q2) ak an (.string X) (.slice pa pn pc) w1 ∧ Hid (Q1 w1)))
    (C2 : Hid (∀ W, Q1 W → Calls Tryz.prog 28 #[.pointer (some q2), .string X] W fun e w1 => e = .returned (.bool e1) ∧ F8 B A p d (some q1) (some q2) ak an (.string X) (.slice pa pn pc) w1 ∧ Hid (PO w1))) :
    Calls Tryz.prog 8 #[.pointer (some ⟨B, 0, none⟩), .agg #[.int .i64 ak, .int .i64 an, .string X, .slice pa pn pc]] wr fun e w' => e = .returned (.bool true) ∧ PO w' := by
  obtain ⟨W1, hW1⟩ : ∃ W, wr.alloc (.cells #[.int .i64 ak, .int .i64 an, .string X, .slice pa pn pc] 39) = W := ⟨_, rfl⟩
  rw [hW1] at K0
  have K0d : Hid (Q0 W1.drew) := D0.out _ K0.out.2.1
  have f0 : F8 B A p d (some q1) (some q2) ak an (.string X) (.slice pa pn pc) W1.drew := K0.out.2.2.drew
  have d3 := K0.out.1
  obtain ⟨-, b2, b3, b4, a0, -, -, -⟩ := K0.out.2.2
  clear K0 D0
  go_enter Tryz.func8, Tryz.ntmps8
  go_wp2_with fail
  refine Calls.mono (AM.out _) ?_
  rintro e w1 ⟨rfl, rfl⟩
  clear hA hW1
  go_wp2_with fail
  refine Calls.mono (AM.out _) ?_
  rintro e w1 ⟨rfl, rfl⟩
  clear AM
  go_wp2_with fail
  go_region_held3 (fun w' => w'.cell? ⟨B, 1, none⟩ = some (.pointer (some ⟨p, 0, none⟩)) ∧ w'.cell? ⟨B, 2, none⟩ = some (.pointer (some ⟨d, 0, none⟩)) ∧ w'.cell? ⟨B, 3, none⟩ = some (.pointer (some q1)) ∧ w'.cell? ⟨B, 4, none⟩ = some (.pointer (some q2)) ∧ w'.cell? ⟨A, 0, none⟩ = some (.int .i64 ak) ∧ w'.cell? ⟨A, 1, none⟩ = some (.int .i64 an) ∧ w'.cell? ⟨A, 2, none⟩ = some (.string X) ∧ w'.cell? ⟨A, 3, none⟩ = some (.slice pa pn pc)) (first | exact f0 | assumption) (first | (go_at_call 18; refine Calls.mono (C1.out _ K0d.out) ?_; rintro e w2 ⟨rfl, f2, K2⟩) | (go_at_call 28; refine Calls.mono (C2.out _ K2.out) ?_; rintro e w3 ⟨rfl, f3, K3⟩))
  clear C1 C2 K0d K2 f0 f2 f3 a0 b2 b3 b4 d3
  cases e1
  · go_wp2
    go_ret
    exact ⟨rfl, K3.out⟩
  · go_wp2
    go_ret
    exact ⟨rfl, K3.out⟩
end
end Go.Proofs.YtageoeogofeckaaGreatDoor
namespace Go.Proofs.YtageoeogofeckaaGreatDoor
open Go.RowKit Go.Proofs.Fd Go.Proofs.Dk Go.Proofs.Lg
set_option maxRecDepth 20000
theorem scut_nil (c : UInt8) (w : World) :
    Calls Tryz.prog 57 #[.string (st []), .string ⟨#[c]⟩] w fun e w' => e = .returned (.tuple #[.string (st []), .bool false]) ∧ w' = w := by
  have hs : (st []).size = 0 := by rw [st_size]; rfl
  have hc : (⟨#[c]⟩ : ByteArray).size = 1 := rfl
  obtain ⟨S, hS⟩ : ∃ S, st [] = S := ⟨_, rfl⟩
  obtain ⟨C, hC⟩ : ∃ C : ByteArray, ⟨#[c]⟩ = C := ⟨_, rfl⟩
  rw [hS] at hs ⊢
  rw [hC] at hc ⊢
  clear hS hC
  have HP : Hid (∀ w, Calls Tryz.prog 115 #[.string S, .string C] w fun e w' => e = .returned (.bool false) ∧ w' = w) := fun w => by
    go_enter Tryz.func115, Tryz.ntmps115
    go_wp2
    go_ret
    exact ⟨rfl, rfl⟩
  have CP : Hid (∀ w, Calls Tryz.prog 93 #[.string S, .string C] w fun e w' => e = .returned (.tuple #[.string S, .bool false]) ∧ w' = w) := fun w => by
    go_enter Tryz.func93, Tryz.ntmps93
    go_wp2_with fail
    refine Calls.mono (HP.out _) ?_
    rintro e w1 ⟨rfl, rfl⟩
    go_wp2
    go_ret2
    exact ⟨rfl, rfl⟩
  go_enter Tryz.func57, Tryz.ntmps57
  go_wp2_with fail
  refine Calls.mono (CP.out _) ?_
  rintro e w1 ⟨rfl, rfl⟩
  go_wp2
  go_ret2
  exact ⟨rfl, rfl⟩
theorem scut_no (r : Bs) (c : UInt8) (hr : r.length ≤ 100000) (h : r.head? ≠ some c) (w : World) :
    Calls Tryz.prog 57 #[.string (st r), .string ⟨#[c]⟩] w fun e w' => e = .returned (.tuple #[.string (st r), .bool false]) ∧ w' = w := by
  match r, hr, h with
  | [], _, _ => exact scut_nil c w
  | d :: t, hr, h =>
    have hd : ¬ d = c := fun e => h (by rw [e]; rfl)
    have := scut_any d c t (by rw [List.length_cons] at hr; omega) w
    rw [if_neg hd, decide_eq_false hd] at this
    exact this
theorem scut_yes (r : Bs) (c : UInt8) (hr : r.length ≤ 100000) (h : r.head? = some c) (w : World) :
    Calls Tryz.prog 57 #[.string (st r), .string ⟨#[c]⟩] w fun e w' => e = .returned (.tuple #[.string (st r.tail), .bool true]) ∧ w' = w := by
  match r, hr, h with
  | [], _, h => cases h
  | d :: t, hr, h =>
    have hd : d = c := by injection h
    have := scut_any d c t (by rw [List.length_cons] at hr; omega) w
    rw [if_pos hd, decide_eq_true hd] at this
    exact this
set_option maxHeartbeats 1000000 in
theorem etake_no (b : Nat) (r : Bs) (hr : r.length ≤ 2000) (h1 : ¬ (r.length = 17 ∧ r.head? = some 84)) (h2 : ¬ (r.length = 5 ∧ r.head? = some 69)) (w : World) :
    Calls Tryz.prog 33 #[.pointer (some ⟨b, 1, none⟩), .string (st r)] w fun e w' => e = .returned (.bool false) ∧ w' = w := by
  have hs : (st r.tail).size = r.length - 1 := by rw [st_size, List.length_tail]
  by_cases a : r.head? = some 84
  · have C1 : Hid _ := scut_yes r 84 (by omega) a w
    have C2 : Hid _ := scut_no r 69 (by omega) (by rw [a]; decide) w
    have hl : 0 < r.length := by cases r with
      | nil => cases a
      | cons => simp
    have g1 : ¬ ((st r.tail).size : Int) = 16 := fun c => h1 ⟨by omega, a⟩
    obtain ⟨S, hS⟩ : ∃ S, st r = S := ⟨_, rfl⟩
    obtain ⟨T, hT⟩ : ∃ S, st r.tail = S := ⟨_, rfl⟩
    rw [hS] at C1 C2 ⊢
    rw [hT] at C1 g1
    clear hS hT hs a h1 h2 hr hl
    go_enter Tryz.func33, Tryz.ntmps33
    go_wp2_with fail
    refine Calls.mono C1.out ?_
    rintro e w1 ⟨rfl, rfl⟩
    clear C1
    go_wp2_with fail
    refine Calls.mono C2.out ?_
    rintro e w1 ⟨rfl, rfl⟩
    clear C2
    go_wp2
    go_ret
    exact ⟨rfl, rfl⟩
  · have C1 : Hid _ := scut_no r 84 (by omega) a w
    by_cases c : r.head? = some 69
    · have C2 : Hid _ := scut_yes r 69 (by omega) c w
      have hl : 0 < r.length := by cases r with
        | nil => cases c
        | cons => simp
      have g1 : ¬ ((st r.tail).size : Int) = 4 := fun e => h2 ⟨by omega, c⟩
      obtain ⟨S, hS⟩ : ∃ S, st r = S := ⟨_, rfl⟩
      obtain ⟨T, hT⟩ : ∃ S, st r.tail = S := ⟨_, rfl⟩
      rw [hS] at C1 C2 ⊢
      rw [hT] at C2 g1
      clear hS hT hs a c h1 h2 hr hl
      go_enter Tryz.func33, Tryz.ntmps33
      go_wp2_with fail
      refine Calls.mono C1.out ?_
      rintro e w1 ⟨rfl, rfl⟩
      clear C1
      go_wp2_with fail
      refine Calls.mono C2.out ?_
      rintro e w1 ⟨rfl, rfl⟩
      clear C2
      go_wp2
      go_ret
      exact ⟨rfl, rfl⟩
    · have C2 : Hid _ := scut_no r 69 (by omega) c w
      obtain ⟨S, hS⟩ : ∃ S, st r = S := ⟨_, rfl⟩
      rw [hS] at C1 C2 ⊢
      clear hS hs a c h1 h2 hr
      go_enter Tryz.func33, Tryz.ntmps33
      go_wp2_with fail
      refine Calls.mono C1.out ?_
      rintro e w1 ⟨rfl, rfl⟩
      clear C1
      go_wp2_with fail
      refine Calls.mono C2.out ?_
      rintro e w1 ⟨rfl, rfl⟩
      clear C2
      go_wp2
      go_ret
      exact ⟨rfl, rfl⟩
set_option maxHeartbeats 1000000 in
theorem etake_old (b q ep most : Nat) (va vh : Value) (ah he : List Bs) (h1 : ah.length ≤ 100000) (h2 : he.length ≤ 100000) (t : Bs) (ht : t.length = 16) (hm : t ∈ ah ++ he) (w : World) (h : Hid (Es w b q ep most va vh ah he)) :
    Calls Tryz.prog 33 #[.pointer (some ⟨b, 1, none⟩), .string (st (84 :: t))] w fun e w' => e = .returned (.bool true) ∧ w' = w := by
  have C1 : Hid _ := scut_any 84 84 t (by omega) w
  rw [if_pos rfl, decide_eq_true rfl] at C1
  have HS : Hid _ := ehas_any b q ep most va vh ah he h1 h2 (st t) w h
  rw [st_data, decide_eq_true hm] at HS
  have hs : (st t).size = 16 := by rw [st_size, ht]
  obtain ⟨T, hT⟩ : ∃ T, st t = T := ⟨_, rfl⟩
  obtain ⟨S, hS⟩ : ∃ S, st (84 :: t) = S := ⟨_, rfl⟩
  rw [hT] at C1 HS hs
  rw [hS] at C1 ⊢
  have A1 : Hid (Calls Tryz.prog 58 #[.pointer (some ⟨b, 1, none⟩), .string T] w fun e w' => e = .returned (.tuple #[]) ∧ w' = w) := by
    clear C1 hT hS h hm
    go_enter Tryz.func58, Tryz.ntmps58
    go_wp2_with fail
    refine Calls.mono HS.out ?_
    rintro e w1 ⟨rfl, rfl⟩
    clear HS
    go_wp2
    go_end0
    exact ⟨rfl, rfl⟩
  clear hT hS h hm HS
  go_enter Tryz.func33, Tryz.ntmps33
  go_wp2_with fail
  refine Calls.mono C1.out ?_
  rintro e w1 ⟨rfl, rfl⟩
  clear C1
  go_wp2_with fail
  refine Calls.mono A1.out ?_
  rintro e w2 ⟨rfl, rfl⟩
  clear A1
  go_wp2
  go_ret
  exact ⟨rfl, rfl⟩
theorem Es.far {w : World} {b q ep most : Nat} {va vh : Value} {ah he : List Bs} (h : Es w b q ep most va vh ah he) (k : Nat) :
    Es (((w.setCell ⟨b, 2, none⟩ (.slice none 0 0)).setCell ⟨b, 3, none⟩ (.slice none 0 0)).setCell ⟨b, 1, none⟩ (.int .i64 (k : Int))) b q k most (.slice none 0 0) (.slice none 0 0) [] [] :=
  ⟨((h.bk.set 2 (show 2 < 5 by decide) (.slice none 0 0)).set 3 (show 3 < 5 by decide) (.slice none 0 0)).set 1 (show 1 < 5 by decide) (.int .i64 (k : Int)), owns_nilS _, owns_nilS _, (fun c => by cases c), (fun c => by cases c), fun g _ c => by cases c⟩
def TuP (w : World) (b q most : Nat) (va vh : Value) (y : Ey) (w' : World) : Prop := ∃ va' vh', Es w' b q y.1 most va' vh' y.2.1 y.2.2 ∧ Bf (EFt b va vh) w w' ∧ Nx w (EFt b va vh) (EFt b va' vh')
set_option maxHeartbeats 1000000 in
theorem eturn_no (b q ep most : Nat) (va vh : Value) (ah he : List Bs) (n : Nat) (hn : n < ep ∨ 2147483647 < n) (w : World) (h : Hid (Es w b q ep most va vh ah he)) :
    Calls Tryz.prog 59 #[.pointer (some ⟨b, 1, none⟩), .int .i64 (n : Int)] w fun e w' => e = .returned (.bool false) ∧ w' = w := by
  have k1 := h.out.bk.c 1 _ rfl
  obtain ⟨z, hz⟩ : ∃ z : Int, (n : Int) = z := ⟨_, rfl⟩
  obtain ⟨y, hy⟩ : ∃ z : Int, (ep : Int) = z := ⟨_, rfl⟩
  rw [hy] at k1
  rw [hz]
  by_cases c : z < y
  · clear h hz hy hn
    go_enter Tryz.func59, Tryz.ntmps59
    go_wp2
    go_ret
    exact ⟨rfl, rfl⟩
  · have g : 2147483647 < z := by omega
    clear h hz hy hn
    go_enter Tryz.func59, Tryz.ntmps59
    go_wp2
    go_ret
    exact ⟨rfl, rfl⟩
set_option maxHeartbeats 1000000 in
theorem eturn_all (b q ep most : Nat) (va vh : Value) (ah he : List Bs) (n : Nat) (h1 : ep ≤ n) (h2 : n ≤ 2147483647) (w : World) (h : Hid (Es w b q ep most va vh ah he)) :
    Calls Tryz.prog 59 #[.pointer (some ⟨b, 1, none⟩), .int .i64 (n : Int)] w fun e w' => e = .returned (.bool true) ∧ TuP w b q most va vh (n, tun ep ah he n) w' := by
  by_cases e1 : n = ep + 1
  · subst e1
    have et : tun ep ah he (ep + 1) = (he, []) := by unfold tun; rw [if_neg (by omega), if_pos rfl]
    rw [et]
    exact (eturn_any b q ep most va vh ah he h2 w h).mono fun _ _ ⟨x1, x2, x3, x4⟩ => ⟨x1, _, _, x2, x3, x4⟩
  have k1 := h.out.bk.c 1 _ rfl
  have k2 := h.out.bk.c 2 _ rfl
  have k3 := h.out.bk.c 3 _ rfl
  have kf := h.out.bk.f
  by_cases e0 : n = ep
  · subst e0
    have et : tun n ah he n = (ah, he) := if_pos rfl
    rw [et]
    have E2 : Hid (TuP w b q most va vh (n, ah, he) (w.setCell ⟨b, 1, none⟩ (.int .i64 (n : Int)))) := ⟨va, vh, h.out.setEp n, bf_set (Bf.refl _ _) (.inl rfl), Nx.refl _ _⟩
    have g1 : ¬ (n : Int) < (n : Int) := by omega
    have g3 : ¬ (2147483647 : Int) < (n : Int) := by omega
    have g2 : (n : Int) - (n : Int) = 0 := by omega
    obtain ⟨z, hz⟩ : ∃ z : Int, (n : Int) = z := ⟨_, rfl⟩
    rw [hz] at g1 g2 g3 E2 k1 ⊢
    clear h hz e1 et
    go_enter Tryz.func59, Tryz.ntmps59
    go_wp2
    go_ret
    exact ⟨rfl, E2.out⟩
  · have et : tun ep ah he n = ([], []) := by unfold tun; rw [if_neg e0, if_neg e1]
    rw [et]
    have E2 : Hid (TuP w b q most va vh (n, [], []) (((w.setCell ⟨b, 2, none⟩ (.slice none 0 0)).setCell ⟨b, 3, none⟩ (.slice none 0 0)).setCell ⟨b, 1, none⟩ (.int .i64 (n : Int)))) := ⟨_, _, h.out.far n, bf_set (bf_set (bf_set (Bf.refl _ _) (.inl rfl)) (.inl rfl)) (.inl rfl), fun x hx => by
      rcases hx with e | e | e
      · exact .inl (.inl e)
      · cases e
      · cases e⟩
    have g1 : ¬ (n : Int) < (ep : Int) := by omega
    have g3 : ¬ (2147483647 : Int) < (n : Int) := by omega
    obtain ⟨f, hf⟩ : ∃ f : Int, (n : Int) - (ep : Int) = f := ⟨_, rfl⟩
    have g4 : ¬ f = 0 := by omega
    have g5 : ¬ f = 1 := by omega
    have g6 : IntKind.i64.wrap f = f := by rw [IntKind.wrap_i64]; omega
    obtain ⟨z, hz⟩ : ∃ z : Int, (n : Int) = z := ⟨_, rfl⟩
    obtain ⟨y, hy⟩ : ∃ z : Int, (ep : Int) = z := ⟨_, rfl⟩
    rw [hz] at g1 g3 hf E2 ⊢
    rw [hy] at g1 hf k1
    obtain ⟨a1, n1, c1, rfl⟩ := owns_sliceS h.out.ra
    obtain ⟨a2, n2, c2, rfl⟩ := owns_sliceS h.out.rh
    clear h hz hy e0 e1 et
    go_enter Tryz.func59, Tryz.ntmps59
    go_wp2
    go_ret
    exact ⟨rfl, E2.out⟩
set_option maxHeartbeats 1000000 in
theorem etake_ep (b q ep most : Nat) (va vh : Value) (ah he : List Bs) (t : Bs) (ht : t.length = 4) (w : World) (h : Hid (Es w b q ep most va vh ah he)) :
    Calls Tryz.prog 33 #[.pointer (some ⟨b, 1, none⟩), .string (st (69 :: t))] w fun e w' => e = .returned (.bool (!decide (nm t < ep ∨ 2147483647 < nm t))) ∧ TuP w b q most va vh (if nm t < ep ∨ 2147483647 < nm t then (ep, ah, he) else (nm t, tun ep ah he (nm t))) w' := by
  have TN : Hid (Calls Tryz.prog 59 #[.pointer (some ⟨b, 1, none⟩), .int .i64 (nm t : Int)] w fun e w' => e = .returned (.bool (!decide (nm t < ep ∨ 2147483647 < nm t))) ∧ TuP w b q most va vh (if nm t < ep ∨ 2147483647 < nm t then (ep, ah, he) else (nm t, tun ep ah he (nm t))) w') := by
    by_cases c : nm t < ep ∨ 2147483647 < nm t
    · rw [if_pos c, decide_eq_true c]
      exact (eturn_no b q ep most va vh ah he (nm t) c w h).mono fun _ _ ⟨x1, x2⟩ => ⟨x1, by subst x2; exact ⟨va, vh, h.out, Bf.refl _ _, Nx.refl _ _⟩⟩
    · rw [if_neg c, decide_eq_false c]
      exact (eturn_all b q ep most va vh ah he (nm t) (by omega) (by omega) w h).mono fun _ _ x => x
  have C1 : Hid _ := scut_any 69 84 t (by omega) w
  rw [if_neg (by decide), decide_eq_false (by decide)] at C1
  have C2 : Hid _ := scut_any 69 69 t (by omega) w
  rw [if_pos rfl, decide_eq_true rfl] at C2
  have N1 : Hid (Calls Tryz.prog 60 #[.string (st t)] w fun e w' => e = .returned (.int .i64 (nm t : Int)) ∧ w' = w) := snumber_any t ht w
  have hs : (st t).size = 4 := by rw [st_size, ht]
  obtain ⟨T, hT⟩ : ∃ T, st t = T := ⟨_, rfl⟩
  obtain ⟨S, hS⟩ : ∃ S, st (69 :: t) = S := ⟨_, rfl⟩
  obtain ⟨Y, hY⟩ : ∃ Y, (if nm t < ep ∨ 2147483647 < nm t then (ep, ah, he) else (nm t, tun ep ah he (nm t))) = Y := ⟨_, rfl⟩
  obtain ⟨d, hd⟩ : ∃ d, (!decide (nm t < ep ∨ 2147483647 < nm t)) = d := ⟨_, rfl⟩
  obtain ⟨z, hz⟩ : ∃ z : Int, (nm t : Int) = z := ⟨_, rfl⟩
  rw [hY, hd] at TN ⊢
  rw [hz] at TN N1
  rw [hT] at C2 N1 hs
  rw [hS] at C1 C2 ⊢
  clear hT hS h hz hY hd ht
  go_enter Tryz.func33, Tryz.ntmps33
  go_wp2_with fail
  refine Calls.mono C1.out ?_
  rintro e w1 ⟨rfl, rfl⟩
  clear C1
  go_wp2_with fail
  refine Calls.mono C2.out ?_
  rintro e w1 ⟨rfl, rfl⟩
  clear C2
  go_wp2_with fail
  refine Calls.mono N1.out ?_
  rintro e w1 ⟨rfl, rfl⟩
  clear N1
  go_wp2_with fail
  refine Calls.mono TN.out ?_
  rintro e w2 ⟨rfl, E2⟩
  have FF : Hid _ := E2
  clear TN E2
  go_wp2
  go_ret
  exact ⟨rfl, FF.out⟩
theorem take_c : TakeC := by
  intro b q most va vh y r W hy hr h
  obtain ⟨ep, ah, he⟩ := y
  have hn := hy.n
  simp only at hn h
  have go : ∀ (o : Option Ey), tkE (ep, ah, he) r = o → (Calls Tryz.prog 33 #[.pointer (some ⟨b, 1, none⟩), .string (st r)] W fun e w' => e = .returned (.bool o.isSome) ∧ TuP W b q most va vh (o.getD (ep, ah, he)) w') → Calls Tryz.prog 33 #[.pointer (some ⟨b, 1, none⟩), .string (st r)] W fun e w' => e = .returned (.bool (tkE (ep, ah, he) r).isSome) ∧ ∃ va' vh', Es w' b q ((tkE (ep, ah, he) r).getD (ep, ah, he)).1 most va' vh' ((tkE (ep, ah, he) r).getD (ep, ah, he)).2.1 ((tkE (ep, ah, he) r).getD (ep, ah, he)).2.2 ∧ Bf (EFt b va vh) W w' ∧ Nx W (EFt b va vh) (EFt b va' vh') := fun o e c => by
    rw [e]
    exact c
  by_cases h1 : r.length = 17 ∧ r.head? = some 84
  · obtain ⟨t, rfl⟩ : ∃ t, r = 84 :: t := by
      cases r with
      | nil => cases h1.2
      | cons d t => exact ⟨t, by have := h1.2; injection this with this; rw [this]⟩
    have ht : t.length = 16 := by have := h1.1; rw [List.length_cons] at this; omega
    have ek : tkE (ep, ah, he) (84 :: t) = some (ep, ah, if t ∈ ah ++ he then he else he ++ [t]) := if_pos h1
    refine go _ ek ?_
    by_cases hm : t ∈ ah ++ he
    · rw [if_pos hm]
      exact (etake_old b q ep most va vh ah he (by omega) (by omega) t ht hm W h).mono fun _ _ ⟨x1, x2⟩ => ⟨x1, by subst x2; exact ⟨va, vh, h, Bf.refl _ _, Nx.refl _ _⟩⟩
    · rw [if_neg hm]
      exact (etakeT_any b q ep most va vh ah he (by omega) (by omega) t ht hm W h).mono fun _ _ ⟨x1, v', x2, x3, x4⟩ => ⟨x1, va, v', x2, x3, x4⟩
  · by_cases h2 : r.length = 5 ∧ r.head? = some 69
    · obtain ⟨t, rfl⟩ : ∃ t, r = 69 :: t := by
        cases r with
        | nil => cases h2.2
        | cons d t => exact ⟨t, by have := h2.2; injection this with this; rw [this]⟩
      have ht : t.length = 4 := by have := h2.1; rw [List.length_cons] at this; omega
      have ek : tkE (ep, ah, he) (69 :: t) = if nm t < ep ∨ 2147483647 < nm t then none else some (nm t, tun ep ah he (nm t)) := by
        unfold tkE tkp
        rw [if_neg h1, if_pos h2]
        rfl
      have T := etake_ep b q ep most va vh ah he t ht W h
      by_cases c : nm t < ep ∨ 2147483647 < nm t
      · rw [if_pos c] at ek T
        rw [decide_eq_true c] at T
        exact go _ ek T
      · rw [if_neg c] at ek T
        rw [decide_eq_false c] at T
        exact go _ ek T
    · have ek : tkE (ep, ah, he) r = none := by
        unfold tkE tkp
        rw [if_neg h1, if_neg h2]
      refine go _ ek ?_
      exact (etake_no b r hr h1 h2 W).mono fun _ _ ⟨x1, x2⟩ => ⟨x1, by subst x2; exact ⟨va, vh, h, Bf.refl _ _, Nx.refl _ _⟩⟩
end Go.Proofs.YtageoeogofeckaaGreatDoor
namespace Go.Proofs.YtageoeogofeckaaGreatDoor
open Go.RowKit Go.Proofs.Fd Go.Proofs.Dk Go.Proofs.Lg
set_option maxRecDepth 20000
theorem bgf_head (k H g : Nat) (r : Bs) (f : Nat → Bs) : bgf k H (hd g ++ r) f k = hd g := by
  have hl : 0 < (hd g ++ r).length / 64 := by rw [List.length_append, hd_len]; omega
  have := bgf_in (k := k) (H := H) (b := hd g ++ r) f hl
  rw [Nat.add_zero] at this
  rw [this]
  obtain ⟨m, hm⟩ : ∃ m, (hd g ++ r).length / 64 = m + 1 := ⟨(hd g ++ r).length / 64 - 1, by omega⟩
  simp only [hm]
  show (hd g ++ r).take 64 = hd g
  rw [List.take_left' (hd_len g)]
structure Lu (w wr : World) (p : Nat) (F : Nat → Prop) (n : Nat) (f : Nat → Bs) (l : List Wt) (q : Nat) (v : Value) (x : Lo) : Prop where
  hd_ : HD w wr p F (up n f l) q (x.h * (n / 2)) (n / 2) x.g v x.ts x.tk x.mr []
  h1 : x.h ≤ 1
  n4 : 4 ≤ n
  n2 : n ≤ 1024
  tk : x.tk ≤ n / 2
  ok : ∀ t ∈ x.ts, 1 ≤ t.length ∧ t.length ≤ 2000
  sh : lay f l (x.h * (n / 2)) = hd x.g
  g1 : 1 ≤ x.g
  g2 : x.g ≤ 1000000
  ln : l.length ≤ x.tk
section
variable {w wr : World} {p : Nat} {F : Nat → Prop} {n : Nat} {f : Nat → Bs} {l : List Wt} {q : Nat} {v : Value} {x : Lo}
theorem Lu.later (h : Lu w wr p F n f l q v x) {w' : World} (hb : Below wr.heap.size wr w') : Lu w w' p F n f l q v x := ⟨h.hd_.later hb, h.h1, h.n4, h.n2, h.tk, h.ok, h.sh, h.g1, h.g2, h.ln⟩
theorem Lu.other (h : Lu w wr p F n f l q v x) {w' : World} {G : Nat → Prop} (hb : Bf G wr w') (hG : ∀ y, FH F q v y → ¬ G y) (hw : ∀ y, G y → w.heap.size ≤ y) : Lu w w' p F n f l q v x :=
  ⟨⟨⟨h.hd_.dl.at_.other hb (fun y hy => hG y (.inl hy)), h.hd_.dl.new, h.hd_.dl.below.trans (hb.below hw h.hd_.dl.below.size)⟩, h.hd_.hf.bf hb (fun y hy => hG y (.inr hy)), h.hd_.ap⟩, h.h1, h.n4, h.n2, h.tk, h.ok, h.sh, h.g1, h.g2, h.ln⟩
theorem Lu.fh (h : Lu w wr p F n f l q v x) {y : Nat} (hy : FH F q v y) : y < wr.heap.size ∧ w.heap.size ≤ y := by
  rcases hy with e | e
  · exact ⟨h.hd_.dl.at_.lt e, h.hd_.dl.new y e⟩
  · exact ⟨h.hd_.hf.lt e, (h.hd_.ap y e).2⟩
theorem Lu.tlen (h : Lu w wr p F n f l q v x) : x.ts.length ≤ 512 := by
  have h1 := tkn_ge_len x.ts
  have h2 : tkn 1 x.ts ≤ n / 2 := h.tk
  have h3 := h.n2
  omega
theorem Lu.fr (h : Lu w wr p F n f l q v x) : x.h * (n / 2) + n / 2 ≤ n := by
  rcases (by have := h.h1; omega : x.h = 0 ∨ x.h = 1) with e | e
  · rw [e, Nat.zero_mul]; omega
  · rw [e, Nat.one_mul]; omega
end
theorem recordsU (w wr : World) (p : Nat) (F : Nat → Prop) (n : Nat) (f : Nat → Bs) (l : List Wt) (q : Nat) (v : Value) (x : Lo) (h : Lu w wr p F n f l q v x) :
    Calls Tryz.prog 32 #[.pointer (some ⟨q, 0, none⟩)] wr fun e w' => ∃ a c, e = .returned (.slice a x.ts.length c) ∧ TxAt w' a x.ts ∧ Below wr.heap.size wr w' :=
  (lrecords_any q p _ (n / 2) x.g v x.ts x.tk x.mr [] wr (by have := h.tlen; omega) (fun t ht => (h.ok t ht).2) h.hd_.hf).mono fun _ _ ⟨u, he, hr, hb⟩ => by
    obtain ⟨a, c, rfl, tx, -⟩ := owns_tx rfl hr
    exact ⟨a, c, he, tx, hb⟩
theorem openU_new (w wr : World) (p : Nat) (F : Nat → Prop) (n : Nat) (hn4 : 4 ≤ n) (hn2 : n ≤ 1024) (hk : Kh w) (h : Dl w wr p F (up n zs [])) :
    Calls Tryz.prog 31 #[.pointer (some ⟨p, 0, none⟩)] wr fun e w' => ∃ q v F', e = .returned (.tuple #[.pointer (some ⟨q, 0, none⟩), .int .i64 0]) ∧ Lu w w' p F' n (bgf 0 (n / 2) (hd 1 ++ rcs (hm 1) []) zs) [] q v ⟨0, 1, []⟩ ∧ Bf F wr w' ∧ Nx wr F F' ∧ ∀ z, HFt q v z → wr.heap.size ≤ z := by
  have eo := opn_blank (n := n) zs (fun _ => rfl) (by omega)
  refine (lopen_any w wr p F (up n zs []) (by show 2 ≤ n / 2; omega) (by show 0 + 2000 ≤ 1000000; decide) hk h).mono ?_
  rintro e w' ⟨F', d1, d2, d3, hres⟩
  rw [eo] at d1 hres
  rcases hres with ⟨-, q, v, he, hh, nn⟩ | ⟨c, -⟩
  · refine ⟨q, v, F', he, ⟨hh, by decide, hn4, hn2, by show 1 ≤ n / 2; omega, nofun, ?_, by decide, by decide, Nat.zero_le _⟩, d3, d2, nn⟩
    show bgf 0 (n / 2) _ zs (0 * (n / 2)) = hd 1
    rw [Nat.zero_mul]
    exact bgf_head _ _ _ _ _
  · exact absurd rfl c
theorem appendE (w wr : World) (p : Nat) (F : Nat → Prop) (n : Nat) (f : Nat → Bs) (l : List Wt) (q : Nat) (v : Value) (x : Lo) (X : ByteArray) (hX : may X.data.toList = 0) (hf : x.tk + sn X.data.toList ≤ n / 2) (hk : Kh w) (h : Lu w wr p F n f l q v x) :
    Calls Tryz.prog 42 #[.pointer (some ⟨q, 0, none⟩), .string X] wr fun e w' =>
      e = .returned (.int .i64 0) ∧ ∃ F' v', Lu w w' p F' n f (l ++ wts (x.h * (n / 2) + x.tk) (chs (sn X.data.toList) (rcd x.mr X.data.toList))) q v' { x with ts := x.ts ++ [X.data.toList] } ∧ Nx2 wr F q v F' v' ∧ Bf (FH F q v) wr w' := by
  have hx : x.tk ≤ n / 2 := h.tk
  have hn2 := h.n2
  have hfr := h.fr
  have hln := h.ln
  refine (lappend_any w wr p F (up n f l) q (x.h * (n / 2)) (n / 2) x.g v x.ts x.tk x.mr X (mks_len _ _ rfl) (by have := h.tlen; omega) h.tk (by omega) (by omega) (by show l.length + 100 ≤ 1000000; omega) hk h.hd_).mono ?_
  rintro e w' ⟨he, F', v', n1, b1, hh⟩
  unfold apR at he hh
  rw [if_neg (by rw [hX]; simp), if_neg (by omega)] at he hh
  have ew := wrb_u (rcd_len x.mr X.data.toList) (n := n) (k := x.h * (n / 2) + x.tk) (by omega) f l
  rw [ew] at he hh
  refine ⟨he, F', v', ?_, n1, b1⟩
  have et : (⟨x.h, x.g, x.ts ++ [X.data.toList]⟩ : Lo).tk = x.tk + sn X.data.toList := tkn_app x.ts 1 _
  have em : (⟨x.h, x.g, x.ts ++ [X.data.toList]⟩ : Lo).mr = rmk x.mr X.data.toList := mks_app x.ts (hm x.g) _
  rcases hh with ⟨-, hh⟩ | ⟨c, -⟩
  · refine ⟨?_, h.h1, h.n4, h.n2, ?_, ?_, ?_, h.g1, h.g2, ?_⟩
    · show HD _ _ _ _ _ _ _ _ _ _ _ (⟨x.h, x.g, x.ts ++ [X.data.toList]⟩ : Lo).tk (⟨x.h, x.g, x.ts ++ [X.data.toList]⟩ : Lo).mr _
      rw [et, em]
      exact hh
    · show (⟨x.h, x.g, x.ts ++ [X.data.toList]⟩ : Lo).tk ≤ _
      rw [et]
      omega
    · intro t ht
      rcases List.mem_append.1 ht with ht | ht
      · exact h.ok t ht
      · rw [List.mem_singleton] at ht
        subst ht
        exact may_ok hX
    · show lay f (l ++ _) (x.h * (n / 2)) = hd x.g
      have h1 := tkn_ge x.ts 1
      rw [lay_lay, wts_at, dif_neg (by show ¬ (x.h * (n / 2) + tkn 1 x.ts ≤ _ ∧ _); omega)]
      exact h.sh
    · show (l ++ _).length ≤ (⟨x.h, x.g, x.ts ++ [X.data.toList]⟩ : Lo).tk
      rw [et, List.length_append, wts_len, chs_len]
      omega
  · exact absurd rfl c
theorem syncE (w wr : World) (p : Nat) (F : Nat → Prop) (n : Nat) (f : Nat → Bs) (l : List Wt) (q : Nat) (v : Value) (x : Lo) (h : Lu w wr p F n f l q v x) :
    Calls Tryz.prog 44 #[.pointer (some ⟨q, 0, none⟩)] wr fun e w' => e = .returned (.int .i64 0) ∧ ∃ F', Lu w w' p F' n (lay f l) [] q v x ∧ Nx wr F F' ∧ Bf F wr w' := by
  have hln := h.ln
  have htk : x.tk ≤ n / 2 := h.tk
  have hn2 := h.n2
  exact (lsyncl_any w wr p F (up n f l) q _ _ x.g v x.ts x.tk x.mr [] (by show l.length ≤ 1000000; omega) h.hd_).mono fun _ _ ⟨he, F', d1, d2, d3⟩ => ⟨he, F', ⟨h.hd_.disk d1 d2 d3, h.h1, h.n4, h.n2, h.tk, h.ok, h.sh, h.g1, h.g2, Nat.zero_le _⟩, d2, d3⟩
end Go.Proofs.YtageoeogofeckaaGreatDoor
