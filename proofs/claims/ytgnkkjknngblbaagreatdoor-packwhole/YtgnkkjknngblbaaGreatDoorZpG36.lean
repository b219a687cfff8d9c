/- Parts: PkD, HP2. -/
import Derived.Test.YtgnkkjknngblbaaGreatDoorZpG35
import Derived.Test.YtgnkkjknngblbaaGreatDoorZpG29
import Derived.Deep.RegionHeld3
import Derived.Test.YtgnkkjknngblbaaGreatDoorZpG34
namespace Go.Proofs.YtgnkkjknngblbaaGreatDoor
open Go.RowKit Go.Proofs.Fd Go.Proofs.Hs Go.Proofs.Cc Go.Proofs.Hd Go.Proofs.Rt Go.Proofs.Wd
set_option maxRecDepth 20000
set_option maxHeartbeats 400000 in
theorem pPeel_no (p b : ByteArray) (hb : b.size = 504) (w : World) (E : Int) (hE : ¬ E = 0)
    (PE : Hid (∀ w', Below w.heap.size w w' → Calls Tryz.prog 21 #[.string p, .string (b.extract 0 248)] w' fun e w'' => e = .returned (.tuple #[hv zh, .string ⟨#[]⟩, kz, .int .i64 E]) ∧ Below w'.heap.size w' w'')) :
    Calls Tryz.prog 12 #[.string p, .string b] w fun e w' => e = .returned (.tuple #[pdz, .int .i64 E]) ∧ Below w.heap.size w w' := by
  have g1 : (b.size : Int) = 504 := by omega
  obtain ⟨H, hH⟩ : ∃ H, b.extract 0 248 = H := ⟨_, rfl⟩
  rw [hH] at PE
  unfold hv zh kz at PE
  simp only at PE
  go_enter Tryz.func12, Tryz.ntmps12
  go_wp2_with fail
  refine Calls.mono (PE.out _ ((Below.refl _ _).alloc (Nat.le_refl _) _)) ?_
  rintro e w1 ⟨rfl, hb1⟩
  have J : Hid (PdAt w1 w.heap.size zh ⟨#[]⟩ ⟨#[]⟩ ⟨#[]⟩ ∧ Below w.heap.size w w1) := ⟨(PdAt.zero w).later hb1, chain ((Below.refl _ _).alloc (Nat.le_refl _) _) hb1⟩
  clear hb1 PE
  generalize hgg : w.heap.size = g at *
  have F0 : PdAt (putP w1 g zh ⟨#[]⟩ ⟨#[]⟩ ⟨#[]⟩) g zh ⟨#[]⟩ ⟨#[]⟩ ⟨#[]⟩ ∧ Below g w (putP w1 g zh ⟨#[]⟩ ⟨#[]⟩ ⟨#[]⟩) := ⟨J.out.1.put _ _ _ _, below_putP J.out.2 (Nat.le_refl _) _ _ _ _⟩
  have F : Hid (PdAt (((putP w1 g zh ⟨#[]⟩ ⟨#[]⟩ ⟨#[]⟩).alloc (.cells #[.int .i64 0, .int .i64 0, .int .i64 0, .int .i64 0, .string ⟨#[]⟩] 34)).alloc (.cells #[.string ⟨#[]⟩, .string ⟨#[]⟩, .string ⟨#[]⟩, .string ⟨#[]⟩, .string ⟨#[]⟩] 53)) g zh ⟨#[]⟩ ⟨#[]⟩ ⟨#[]⟩ ∧ Below g w (((putP w1 g zh ⟨#[]⟩ ⟨#[]⟩ ⟨#[]⟩).alloc (.cells #[.int .i64 0, .int .i64 0, .int .i64 0, .int .i64 0, .string ⟨#[]⟩] 34)).alloc (.cells #[.string ⟨#[]⟩, .string ⟨#[]⟩, .string ⟨#[]⟩, .string ⟨#[]⟩, .string ⟨#[]⟩] 53))) :=
    ⟨(F0.1.later ((Below.refl _ _).alloc (Nat.le_refl _) _)).later ((Below.refl _ _).alloc (Nat.le_refl _) _), (F0.2.alloc (Nat.le_of_lt F0.1.lt) _).alloc (by have := F0.1.lt; simp; omega) _⟩
  clear F0
  unfold putP zh at F
  obtain ⟨⟨h0, h1, h2, h3, h4, h5, h6, h7⟩, z0, z1, z2, z3, z4, z5, z6, z7⟩ := PdAt.cells (k := 0) (n := 0) (u := 0) (d := 0) (id := ⟨#[]⟩) J.out.1
  have lG := J.out.1.lt
  have lN : ¬ g = w1.heap.size := by omega
  have lN1 : ¬ g = w1.heap.size + 1 := by omega
  go_wp2
  refine bodyPost_ret (v := .tuple #[pdz, .int .i64 E]) ?_ rfl ⟨rfl, by rw [hgg]; exact F.out.2⟩
  exact res_pd _ _ g zh _ _ _ E (by kernel_rfl) (by kernel_rfl) F.out.1
def Stp (w W : World) (g gh gi : Nat) (x : Hp) (k0 k1 k2 k3 k4 k5 : ByteArray) : Prop := PdAt W g zh ⟨#[]⟩ ⟨#[]⟩ ⟨#[]⟩ ∧ HopAt W gh x ∧ Six W gi k0 k1 k2 k3 k4 k5 ∧ Below g w W ∧ g < gi ∧ gh < gi ∧ g < gh ∧ 1 < g
theorem Stp.later {w W W' : World} {g gh gi : Nat} {x : Hp} {k0 k1 k2 k3 k4 k5 : ByteArray} (h : Stp w W g gh gi x k0 k1 k2 k3 k4 k5) (hg : g ≤ W.heap.size) (hb : Below W.heap.size W W') : Stp w W' g gh gi x k0 k1 k2 k3 k4 k5 :=
  ⟨h.1.later hb, h.2.1.later hb, h.2.2.1.later hb, h.2.2.2.1.trans (hb.mono hg), h.2.2.2.2⟩
theorem Stp.opened {w W W' : World} {g gh gi : Nat} {x : Hp} {k0 k1 k2 k3 k4 k5 R : ByteArray} (h : Stp w W g gh gi x k0 k1 k2 k3 k4 k5) (hs : Six W' gi k0 k1 k2 k3 k4 R) (hb : Below gi W W') : Stp w W' g gh gi x k0 k1 k2 k3 k4 R :=
  ⟨h.1.above hb h.2.2.2.2.1, h.2.1.above hb h.2.2.2.2.2.1, hs, h.2.2.2.1.trans (hb.mono (Nat.le_of_lt h.2.2.2.2.1)), h.2.2.2.2⟩
theorem Stp.opened' {w W W' : World} {g gh gi : Nat} {x : Hp} {k0 k1 k2 k3 k4 k5 y0 y1 y2 y3 y4 y5 : ByteArray} (h : Stp w W g gh gi x k0 k1 k2 k3 k4 k5) (hs : Six W' gi y0 y1 y2 y3 y4 y5) (hb : Below gi W W') : Stp w W' g gh gi x y0 y1 y2 y3 y4 y5 :=
  ⟨h.1.above hb h.2.2.2.2.1, h.2.1.above hb h.2.2.2.2.2.1, hs, h.2.2.2.1.trans (hb.mono (Nat.le_of_lt h.2.2.2.2.1)), h.2.2.2.2⟩
theorem Five.above {g : Nat} {w w' : World} {b : Nat} {k0 k1 k2 k3 k4 : ByteArray} (h : Five w b k0 k1 k2 k3 k4) (hb : Below g w w') (hlt : b < g) : Five w' b k0 k1 k2 k3 k4 := by
  obtain ⟨f, h0, h1, h2, h3, h4⟩ := h
  have e : ∀ j, w'.cell? ⟨b, j, none⟩ = w.cell? ⟨b, j, none⟩ := fun j => hb.cell hlt
  have e2 : ∀ j, w'.frozen? ⟨b, j, none⟩ = w.frozen? ⟨b, j, none⟩ := fun j => hb.frozen hlt
  exact ⟨fun j => by rw [e2, f], by rw [e, h0], by rw [e, h1], by rw [e, h2], by rw [e, h3], by rw [e, h4]⟩
theorem Stp.kh {w W : World} {g gh gi : Nat} {x : Hp} {k0 k1 k2 k3 k4 k5 : ByteArray} (h : Stp w W g gh gi x k0 k1 k2 k3 k4 k5) (hK : Kh w) : Kh W := Kh.above hK h.2.2.2.2.2.2.2 h.2.2.2.1
theorem Stp.fin {w W : World} {g gh gi : Nat} {x : Hp} {k0 k1 k2 k3 k4 k5 : ByteArray} (h : Stp w W g gh gi x k0 k1 k2 k3 k4 k5) (y : Hp) (n t s : ByteArray) : PdAt (putP W g y n t s) g y n t s ∧ Below g w (putP W g y n t s) :=
  ⟨h.1.put y n t s, below_putP h.2.2.2.1 (Nat.le_refl _) y n t s⟩
def oph0 : Oper := { dst := some 29, op := Go.Op.load 53 (Go.Operand.tmp 8), type := 53, pos := "pack.go:36", after := #[], guard := none }
def oph1 : Oper := { dst := some 30, op := Go.Op.move (Go.Operand.tmp 1), type := 9, pos := "pack.go:36", after := #[], guard := none }
def oph2 : Oper := { dst := some 31, op := Go.Op.slice 9 (Go.Operand.tmp 30) (some (Go.Operand.const (Go.Value.int Go.IntKind.i64 248))) none none, type := 9, pos := "pack.go:36", after := #[{ on := 1, ground := Go.Ground.data }], guard := none }
def oph3 : Oper := { dst := some 32, op := Go.Op.build 58 #[(0, Go.Operand.tmp 29), (1, Go.Operand.tmp 31)], type := 58, pos := "pack.go:36", after := #[{ on := 0, ground := Go.Ground.data }, { on := 2, ground := Go.Ground.data }], guard := none }
def oph4 : Oper := { dst := some 10, op := Go.Op.alloc 58, type := 0, pos := "pack.go:36", after := #[], guard := none }
def oph5 : Oper := { dst := none, op := Go.Op.store 58 (Go.Operand.tmp 10) (Go.Operand.tmp 32), type := 0, pos := "pack.go:36", after := #[{ on := 4, ground := Go.Ground.data }, { on := 3, ground := Go.Ground.data }, { on := 0, ground := Go.Ground.phase }, { on := 1, ground := Go.Ground.phase }, { on := 2, ground := Go.Ground.phase }, { on := 3, ground := Go.Ground.phase }, { on := 4, ground := Go.Ground.phase }], guard := none }
set_option maxHeartbeats 1000000 in
theorem pPeel_yes (p b : ByteArray) (hb : b.size = 504) (w : World) (hK : Hid (Kh w)) (x : Hp) (n s R UT : ByteArray) (UE : Int) (V : Array Value) (zn : n.size ≤ 248) (zR : R.size = 256)
    (V1 : Hid (x.k = 1 → V = #[pdv x (n ++ R) (hdk s lTag 16) ⟨#[]⟩, .int .i64 0])) (V2 : Hid (x.k ≠ 1 → UE ≠ 0 → V = #[pdz, .int .i64 UE])) (V3 : Hid (x.k ≠ 1 → UE = 0 → V = #[pdv x ⟨#[]⟩ (hdk s lTag 16) UT, .int .i64 0]))
    (PE : Hid (∀ w', Kh w' → Calls Tryz.prog 21 #[.string p, .string (b.extract 0 248)] w' fun e w'' => e = .returned (.tuple #[hv x, .string n, kv s, .int .i64 0]) ∧ Below w'.heap.size w' w''))
    (OP : Hid (∀ w', Kh w' → Calls Tryz.prog 56 #[.string (hdk s lBody 32), .string (b.extract 248 504)] w' fun e w'' => e = .returned (.tuple #[.string R, .int .i64 0]) ∧ Below w'.heap.size w' w''))
    (UW : Hid (∀ w', Kh w' → Calls Tryz.prog 57 #[.string (hdk s lBody 32), .string (b.extract 248 504)] w' fun e w'' => e = .returned (.tuple #[.string UT, .int .i64 UE]) ∧ Below w'.heap.size w' w'')) :
    Calls Tryz.prog 12 #[.string p, .string b] w fun e w' => e = .returned (.tuple V) ∧ Below w.heap.size w w' := by
  have g1 : (b.size : Int) = 504 := by omega
  have AD : ∀ w, (Op.stringOp .add n R).run Tryz.prog w = .ok (.string (n ++ R)) w := fun w => run_string_add_sum _ _ _ (by omega)
  obtain ⟨H, hH⟩ : ∃ H, b.extract 0 248 = H := ⟨_, rfl⟩
  obtain ⟨B, hB⟩ : ∃ B, b.extract 248 504 = B := ⟨_, rfl⟩
  rw [hH] at PE
  rw [hB] at OP UW
  have e5 : b.extract 248 b.size = B := by rw [hb]; exact hB
  generalize n ++ R = NR at *
  obtain ⟨xk, xn, xu, xd, xid⟩ := x
  simp only at V1 V2 V3
  unfold hv kv at PE
  generalize hdk s lFlow 32 = k0 at *
  generalize hdk s lMac 32 = k1 at *
  generalize hdk s lBody 32 = k2 at *
  generalize bld s = k3 at *
  generalize hdk s lTag 16 = k4 at *
  simp only at PE
  have OC : Hid (∀ (g : Nat) (w : World), Six w g k0 k1 k2 k3 k4 B → Kh w → Calls Tryz.prog 22 #[.pointer (some ⟨g, 0, none⟩)] w fun e w' => e = .returned (.tuple #[]) ∧ Six w' g k0 k1 k2 k3 k4 R ∧ Below g w w') := fun g w h1 h2 => popen_any g k0 k1 k2 k3 k4 B R w h1 h2 OP
  have TC : Hid (∀ (g : Nat) (w : World), Six w g k0 k1 k2 k3 k4 B → Kh w → Calls Tryz.prog 23 #[.pointer (some ⟨g, 0, none⟩)] w fun e w' => e = .returned (.tuple #[.string UT, .int .i64 UE]) ∧ Below w.heap.size w w') := fun g w h1 h2 => ptext_any g k0 k1 k2 k3 k4 B UT UE w h1 h2 UW
  clear OP UW zn zR
  go_enter Tryz.func12, Tryz.ntmps12
  go_wp2_with fail
  refine Calls.mono (PE.out _ (hK.out.alloc _)) ?_
  rintro e w1 ⟨rfl, hb1⟩
  have J : Hid (PdAt w1 w.heap.size zh ⟨#[]⟩ ⟨#[]⟩ ⟨#[]⟩ ∧ Below w.heap.size w w1 ∧ w.heap.size < w1.heap.size ∧ 1 < w.heap.size) := ⟨(PdAt.zero w).later hb1, chain ((Below.refl _ _).alloc (Nat.le_refl _) _) hb1, by have := hb1.size; simp at this; omega, hK.out.1⟩
  clear hb1 PE
  generalize hgg : w.heap.size = g at *
  go_wp2_with fail
  obtain ⟨A, hA⟩ : ∃ A, (w1.alloc (.cells #[.int .i64 xk, .int .i64 xn, .int .i64 xu, .int .i64 xd, .string xid] 34)).alloc (.cells #[.string k0, .string k1, .string k2, .string k3, .string k4] 53) = A := ⟨_, rfl⟩
  have J2 : Hid (PdAt A g zh ⟨#[]⟩ ⟨#[]⟩ ⟨#[]⟩ ∧ HopAt A w1.heap.size ⟨xk, xn, xu, xd, xid⟩ ∧ Five A (w1.heap.size + 1) k0 k1 k2 k3 k4 ∧ Below g w A ∧ g < w1.heap.size ∧ A.heap.size = w1.heap.size + 2 ∧ 1 < g) := by
    rw [← hA]
    refine ⟨(J.out.1.later ((Below.refl _ _).alloc (Nat.le_refl _) _)).later ((Below.refl _ _).alloc (Nat.le_refl _) _), (HopAt.fresh _ _ _ _ _ _ _).later ((Below.refl _ _).alloc (Nat.le_refl _) _), ?_, (J.out.2.1.alloc (by have := J.out.2.1.size; omega) _).alloc (by have := J.out.2.1.size; simp; omega) _, J.out.2.2.1, by simp [go_sem], J.out.2.2.2⟩
    have := Five.new (w1.alloc (.cells #[.int .i64 xk, .int .i64 xn, .int .i64 xu, .int .i64 xd, .string xid] 34)) 53 k0 k1 k2 k3 k4
    simpa [go_sem] using this
  rw [hA]
  clear hA J
  generalize w1.heap.size = gh at *
  obtain ⟨D0, hD0⟩ : ∃ D, A.drew = D := ⟨_, rfl⟩
  have J3 : Hid (PdAt D0 g zh ⟨#[]⟩ ⟨#[]⟩ ⟨#[]⟩ ∧ HopAt D0 gh ⟨xk, xn, xu, xd, xid⟩ ∧ Five D0 (gh + 1) k0 k1 k2 k3 k4 ∧ Below g w D0 ∧ g < gh ∧ D0.heap.size = gh + 2 ∧ 1 < g) := by
    have hd : Below A.heap.size A D0 := by rw [← hD0]; exact (Below.refl _ _).drew
    have hz : D0.heap.size = A.heap.size := by rw [← hD0]; simp [go_sem]
    exact ⟨J2.out.1.later hd, J2.out.2.1.later hd, J2.out.2.2.1.later hd, J2.out.2.2.2.1.trans (hd.mono (by have := J2.out.2.2.2.2; omega)), J2.out.2.2.2.2.1, by rw [hz]; exact J2.out.2.2.2.2.2.1, J2.out.2.2.2.2.2.2⟩
  have HS0 : Five A.drew (gh + 1) k0 k1 k2 k3 k4 := by rw [hD0]; exact J3.out.2.2.1
  clear J2
  refine wp_region_noPanic ?_
  refine wp_region_held_drew (S := fun w' => Five w' (gh + 1) k0 k1 k2 k3 k4) (by kernel_rfl) (HS0) (fun hHeld => ?_)
  refine wpAnyH_take (i := 0) (oi := oph0) (v := ?_) rfl (by kernel_rfl) (by kernel_rfl) (by kernel_rfl) (fun _ _ _ h => h) (Or.inl ⟨by rfl, ?_⟩) (by assumption) ?_
  rotate_left
  · intro w' hSw
    obtain ⟨-, p0, p1, p2, p3, p4⟩ := hSw
    unfold oph0
    first
    | (go_simp; done)
    | (go_simp; with_reducible rfl)
  simp only [oph0, Act.put, List.setIfInBounds_toArray, List.set_cons_zero, List.set_cons_succ]
  refine wpAnyH_take (i := 1) (oi := oph1) (v := ?_) rfl (by kernel_rfl) (by kernel_rfl) (by kernel_rfl) (fun _ _ _ h => h) (Or.inl ⟨by rfl, ?_⟩) (by assumption) ?_
  rotate_left
  · intro w' hSw
    clear hSw
    unfold oph1
    first
    | (go_simp; done)
    | (go_simp; with_reducible rfl)
  simp only [oph1, Act.put, List.setIfInBounds_toArray, List.set_cons_zero, List.set_cons_succ]
  refine wpAnyH_take (i := 2) (oi := oph2) (v := ?_) rfl (by kernel_rfl) (by kernel_rfl) (by kernel_rfl) (fun _ _ _ h => h) (Or.inl ⟨by rfl, ?_⟩) (by assumption) ?_
  rotate_left
  · intro w' hSw
    clear hSw
    unfold oph2
    first
    | (go_simp; done)
    | (go_simp; with_reducible rfl)
  simp only [oph2, Act.put, List.setIfInBounds_toArray, List.set_cons_zero, List.set_cons_succ]
  refine wpAnyH_take (i := 3) (oi := oph3) (v := ?_) rfl (by kernel_rfl) (by kernel_rfl) (by kernel_rfl) (fun _ _ _ h => h) (Or.inl ⟨by rfl, ?_⟩) (by assumption) ?_
  rotate_left
  · intro w' hSw
    clear hSw
    unfold oph3
    first
    | (go_simp; done)
    | (go_simp; with_reducible rfl)
  simp only [oph3, Act.put, List.setIfInBounds_toArray, List.set_cons_zero, List.set_cons_succ]
  rw [hD0] at hHeld
  rw [hD0]
  clear hD0 HS0
  refine wpAnyH_ready (rs := [4]) (by kernel_rfl) (by simp) ?_
  refine AllReadyH.cons (o := oph4) rfl (fun KK hKK => ?_) AllReadyH.nil
  unfold oph4
  go_simp
  have J4 : Hid (Stp w (D0.alloc (.cells #[.string ⟨#[]⟩, .string ⟨#[]⟩, .string ⟨#[]⟩, .string ⟨#[]⟩, .string ⟨#[]⟩, .string ⟨#[]⟩] 58)) g gh D0.heap.size ⟨xk, xn, xu, xd, xid⟩ ⟨#[]⟩ ⟨#[]⟩ ⟨#[]⟩ ⟨#[]⟩ ⟨#[]⟩ ⟨#[]⟩ ∧ Five (D0.alloc (.cells #[.string ⟨#[]⟩, .string ⟨#[]⟩, .string ⟨#[]⟩, .string ⟨#[]⟩, .string ⟨#[]⟩, .string ⟨#[]⟩] 58)) (gh + 1) k0 k1 k2 k3 k4 ∧ gh + 1 < D0.heap.size) := by
    have hb : Below D0.heap.size D0 (D0.alloc (.cells #[.string ⟨#[]⟩, .string ⟨#[]⟩, .string ⟨#[]⟩, .string ⟨#[]⟩, .string ⟨#[]⟩, .string ⟨#[]⟩] 58)) := (Below.refl _ _).alloc (Nat.le_refl _) _
    obtain ⟨j1, j2, j3, j4, j5, j6, j7⟩ := J3.out
    exact ⟨⟨j1.later hb, j2.later hb, Six.new _ _ _ _ _ _ _ _, j4.trans (hb.mono (by omega)), by omega, by omega, j5, j7⟩, j3.later hb, by omega⟩
  refine hKK.out _ _ J4.out.2.1 (fun hHeldA => ?_)
  clear hKK KK hHeld
  obtain ⟨U, hU⟩ : ∃ U, D0.alloc (.cells #[.string ⟨#[]⟩, .string ⟨#[]⟩, .string ⟨#[]⟩, .string ⟨#[]⟩, .string ⟨#[]⟩, .string ⟨#[]⟩] 58) = U := ⟨_, rfl⟩
  obtain ⟨gi, hgi⟩ : ∃ gi, D0.heap.size = gi := ⟨_, rfl⟩
  rw [hU, hgi] at J4
  rw [hU] at hHeldA
  rw [hU, hgi]
  clear hU hgi J3
  obtain ⟨fz, h0, h1, h2, h3, h4, h5⟩ := J4.out.1.2.2.1
  have z0 := fz 0
  have z1 := fz 1
  have z2 := fz 2
  have z3 := fz 3
  have z4 := fz 4
  have z5 := fz 5
  clear fz
  have PF : Hid (_ ∧ _) := And.intro (J4.out.1.2.2.1.whole k0 k1 k2 k3 k4 B) (below_six (Below.refl gi U) (Nat.le_refl gi) (.string k0) (.string k1) (.string k2) (.string k3) (.string k4) (.string B))
  refine wpAnyH_ready (rs := [5]) (by kernel_rfl) (by simp) ?_
  refine AllReadyH.cons (o := oph5) rfl (fun KK hKK => ?_) AllReadyH.nil
  unfold oph5
  go_simp
  refine hKK.out _ _ (Five.above J4.out.2.1 PF.out.2 J4.out.2.2) (fun hHeldB => ?_)
  clear hKK KK hHeldA h0 h1 h2 h3 h4 h5 z0 z1 z2 z3 z4 z5
  obtain ⟨U2, hU2⟩ : ∃ U2, ((((((U.setCell ⟨gi, 0, none⟩ (.string k0)).setCell ⟨gi, 1, none⟩ (.string k1)).setCell ⟨gi, 2, none⟩ (.string k2)).setCell ⟨gi, 3, none⟩ (.string k3)).setCell ⟨gi, 4, none⟩ (.string k4)).setCell ⟨gi, 5, none⟩ (.string B)) = U2 := ⟨_, rfl⟩
  rw [hU2] at PF hHeldB
  rw [hU2]
  clear hU2
  refine wpAnyH_done (by kernel_rfl) ?_ _
  refine NoPanic.normal ?_
  clear hHeldB
  have ST : Hid (Stp w U2 g gh gi ⟨xk, xn, xu, xd, xid⟩ k0 k1 k2 k3 k4 B) := J4.out.1.opened' PF.out.1 PF.out.2
  clear J4 PF
  obtain ⟨h0, h1, h2', h3, h4⟩ := ST.out.2.1.cells
  obtain ⟨-, c0, c1, c2, c3, c4, c5⟩ := ST.out.2.2.1
  by_cases hx : xk = 1
  · subst hx
    have hV := V1.out rfl
    go_wp2_with fail
    refine Calls.mono (OC.out _ _ ST.out.2.2.1 (ST.out.kh hK.out)) ?_
    rintro e W2 ⟨rfl, h2, hb2⟩
    have S2 : Hid (Stp w W2 g gh gi ⟨1, xn, xu, xd, xid⟩ k0 k1 k2 k3 k4 R) := ST.out.opened h2 hb2
    clear h2 hb2 ST OC TC h0 h1 h2' h3 h4 c0 c1 c2 c3 c4 c5
    obtain ⟨h0, h1, h2, h3, h4⟩ := S2.out.2.1.cells
    obtain ⟨-, c0, c1, c2, c3, c4, c5⟩ := S2.out.2.2.1
    obtain ⟨⟨p0, p1, p2, p3, p4, p5, p6, p7⟩, z0, z1, z2, z3, z4, z5, z6, z7⟩ := PdAt.cells (k := 0) (n := 0) (u := 0) (d := 0) (id := ⟨#[]⟩) S2.out.1
    have F : Hid (_ ∧ _) := S2.out.fin ⟨1, xn, xu, xd, xid⟩ NR k4 ⟨#[]⟩
    unfold putP at F
    simp only at F
    go_wp2
    refine bodyPost_ret (v := .tuple V) ?_ rfl ⟨rfl, by rw [hgg]; exact F.out.2⟩
    rw [hV]
    exact res_pd _ _ g ⟨1, xn, xu, xd, xid⟩ _ _ _ 0 (by kernel_rfl) (by kernel_rfl) F.out.1
  · have gx : (xk == 1) = false := by rw [beq_eq_false_iff_ne]; exact hx
    go_wp2_with fail
    refine Calls.mono (TC.out _ _ ST.out.2.2.1 (ST.out.kh hK.out)) ?_
    rintro e W2 ⟨rfl, hb2⟩
    have S2 : Hid (Stp w W2 g gh gi ⟨xk, xn, xu, xd, xid⟩ k0 k1 k2 k3 k4 B) := ST.out.later (Nat.le_of_lt ST.out.1.lt) hb2
    clear hb2 ST OC TC h0 h1 h2' h3 h4 c0 c1 c2 c3 c4 c5
    obtain ⟨h0, h1, h2, h3, h4⟩ := S2.out.2.1.cells
    obtain ⟨-, c0, c1, c2, c3, c4, c5⟩ := S2.out.2.2.1
    obtain ⟨⟨p0, p1, p2, p3, p4, p5, p6, p7⟩, z0, z1, z2, z3, z4, z5, z6, z7⟩ := PdAt.cells (k := 0) (n := 0) (u := 0) (d := 0) (id := ⟨#[]⟩) S2.out.1
    by_cases hU : UE = 0
    · subst hU
      have hV := V3.out hx rfl
      have F : Hid (_ ∧ _) := S2.out.fin ⟨xk, xn, xu, xd, xid⟩ ⟨#[]⟩ k4 UT
      unfold putP at F
      simp only at F
      go_wp2
      refine bodyPost_ret (v := .tuple V) ?_ rfl ⟨rfl, by rw [hgg]; exact F.out.2⟩
      rw [hV]
      exact res_pd _ _ g ⟨xk, xn, xu, xd, xid⟩ _ _ _ 0 (by kernel_rfl) (by kernel_rfl) F.out.1
    · have hV := V2.out hx hU
      have F : Hid (_ ∧ _) := S2.out.fin zh ⟨#[]⟩ ⟨#[]⟩ ⟨#[]⟩
      unfold putP zh at F
      simp only at F
      go_wp2
      refine bodyPost_ret (v := .tuple V) ?_ rfl ⟨rfl, by rw [hgg]; exact F.out.2⟩
      rw [hV]
      exact res_pd _ _ g zh _ _ _ UE (by kernel_rfl) (by kernel_rfl) F.out.1
theorem ppeel_of (CL : Hid PeelC) (CO : Hid OpenC) (CU : Hid UnwrapC) : PPeelC := fun p b w zp _ hK => by
  by_cases hb : b.size = 504
  · have zH : (b.extract 0 248).size = 248 := by rw [ByteArray.size_extract]; omega
    have zB : (b.extract 248 504).size = 256 := by rw [ByteArray.size_extract]; omega
    have dB : (b.extract 248 504).data.toList = b.data.toList.drop 248 := by
      rw [ByteArray.data_extract, Array.toList_extract, List.extract_eq_take_drop, List.take_of_length_le]
      rw [List.length_drop, list_sz]
      omega
    have PE := fun w' (h : Kh w') => CL.out p (b.extract 0 248) w' zp (by show (b.extract 0 248).size ≤ _; omega) h
    have eV : ppV p b = (match hpl p (b.extract 0 248) with
      | .error e => #[pdz, .int .i64 e]
      | .ok (x, n, s) => if x.k = 1 then #[pdv x ⟨(n.data.toList ++ openl (bdy s).data.toList (b.data.toList.drop 248)).toArray⟩ (rtg s) ⟨#[]⟩, .int .i64 0]
        else (match textl (openl (bdy s).data.toList (b.data.toList.drop 248)) with
          | none => #[pdz, .int .i64 90]
          | some t => #[pdv x ⟨#[]⟩ (rtg s) ⟨t.toArray⟩, .int .i64 0])) := by unfold ppV; rw [if_pos hb]; rfl
    rw [plV_hpl] at PE
    rw [eV]
    cases hh : hpl p (b.extract 0 248) with
    | error e =>
      rw [hh] at PE
      exact pPeel_no p b hb w e (hpl_no_ne hh) (fun w' hw => PE w' (hK.out.later hw))
    | ok v =>
      obtain ⟨x, n, s⟩ := v
      rw [hh] at PE
      simp only
      have OP := fun w' (h : Kh w') => CO.out (hdk s lBody 32) (b.extract 248 504) w' (by rw [hdk_size]; show (32 : Nat) + 64 ≤ _; decide) (by show (b.extract 248 504).size ≤ _; omega) h
      have UW := fun w' (h : Kh w') => CU.out (hdk s lBody 32) (b.extract 248 504) w' (by rw [hdk_size]; show (32 : Nat) + 64 ≤ _; decide) (by show (b.extract 248 504).size ≤ _; omega) h
      rw [opV_ok _ _ (by omega) (by omega)] at OP
      have zR : (⟨(openl (hdk s lBody 32).data.toList (b.extract 248 504).data.toList).toArray⟩ : ByteArray).size = 256 := by
        rw [ba_sz, openl_len _ _ (by rw [list_sz]; omega), list_sz, zB]
      have eR : n ++ (⟨(openl (hdk s lBody 32).data.toList (b.extract 248 504).data.toList).toArray⟩ : ByteArray) = ⟨(n.data.toList ++ openl (bdy s).data.toList (b.data.toList.drop 248)).toArray⟩ := by
        rw [← dB]
        apply ByteArray.ext
        simp [bdy]
      cases hT : textl (openl (bdy s).data.toList (b.data.toList.drop 248)) with
      | none =>
        rw [uwV_none _ _ (by omega) (by omega) (by rw [dB]; exact hT)] at UW
        refine pPeel_yes p b hb w hK x n s _ _ _ _ (hpl_on_size hh) zR (fun hx => ?_) (fun hx _ => ?_) (fun _ h => absurd h (by decide)) PE OP UW
        · rw [if_pos hx, eR]; rfl
        · rw [if_neg hx]
      | some t =>
        rw [uwV_some _ _ t (by omega) (by omega) (by rw [dB]; exact hT)] at UW
        refine pPeel_yes p b hb w hK x n s _ _ _ _ (hpl_on_size hh) zR (fun hx => ?_) (fun _ h => absurd rfl h) (fun hx _ => ?_) PE OP UW
        · rw [if_pos hx, eR]; rfl
        · rw [if_neg hx]; rfl
  · have eV : ppV p b = #[pdz, .int .i64 3] := by unfold ppV; rw [if_neg hb]
    rw [eV]
    exact pPeel_form p b hb w
end Go.Proofs.YtgnkkjknngblbaaGreatDoor
namespace Go.Proofs.YtgnkkjknngblbaaGreatDoor
open Go.RowKit Go.Proofs.Fd Go.Proofs.Hs Go.Proofs.Cc Go.Proofs.Hd Go.Proofs.Rt
set_option maxRecDepth 20000
theorem Six.other {w : World} {g b o : Nat} {v : Value} {k0 k1 k2 k3 k4 k5 : ByteArray} (h : Six w g k0 k1 k2 k3 k4 k5) (hne : b ≠ g) : Six (w.setCell ⟨b, o, none⟩ v) g k0 k1 k2 k3 k4 k5 := by
  obtain ⟨f, h0, h1, h2, h3, h4, h5⟩ := h
  have e : ∀ j, (w.setCell ⟨b, o, none⟩ v).cell? ⟨g, j, none⟩ = w.cell? ⟨g, j, none⟩ := fun j => by simp [go_sem]
  have e2 : ∀ j, (w.setCell ⟨b, o, none⟩ v).frozen? ⟨g, j, none⟩ = w.frozen? ⟨g, j, none⟩ := fun j => by simp [go_sem]
  exact ⟨fun j => by rw [e2, f], by rw [e, h0], by rw [e, h1], by rw [e, h2], by rw [e, h3], by rw [e, h4], by rw [e, h5]⟩
theorem res_hk (tmps : Array Value) (w : World) (b : Nat) (x : Array Value) (h0 : tmps.getD 2 undef = .pointer (some ⟨b, 0, none⟩))
    (l1 : (loadVar 70 ⟨b, 0, none⟩).run Tryz.prog w = .ok (.agg x) w) :
    (results Tryz.f49 tmps).run Tryz.prog w = .ok (.agg x) w := by
  unfold results
  rw [Tryz.results49]
  have h0' : tmps[2]?.getD undef = .pointer (some ⟨b, 0, none⟩) := by simpa using h0
  simp [h0', l1, asAddr]
set_option maxHeartbeats 1000000 in
theorem keysOf_any (s : ByteArray) (hs : Hid (s.size + 64 ≤ 140737488355328)) (w : World) (hK : Hid (Kh w)) :
    Calls Tryz.prog 49 #[.string s] w fun e w' => e = .returned (hk6 s) ∧ Below w.heap.size w w' := by
  have D1 : Hid (∀ w, Kh w → Calls Tryz.prog 78 #[.agg #[.string s], .string ⟨#[102, 108, 111, 119]⟩, .int .i64 32] w fun e w' => e = .returned (.string (hdk s lFlow 32)) ∧ Below w.heap.size w w') := fun w h => hderived_any s lFlow 32 (by decide) (by decide) hs w h
  have D2 : Hid (∀ w, Kh w → Calls Tryz.prog 78 #[.agg #[.string s], .string ⟨#[109, 97, 99]⟩, .int .i64 32] w fun e w' => e = .returned (.string (hdk s lMac 32)) ∧ Below w.heap.size w w') := fun w h => hderived_any s lMac 32 (by decide) (by decide) hs w h
  have D3 : Hid (∀ w, Kh w → Calls Tryz.prog 78 #[.agg #[.string s], .string ⟨#[98, 111, 100, 121]⟩, .int .i64 32] w fun e w' => e = .returned (.string (hdk s lBody 32)) ∧ Below w.heap.size w w') := fun w h => hderived_any s lBody 32 (by decide) (by decide) hs w h
  have D4 : Hid (∀ w, Kh w → Calls Tryz.prog 78 #[.agg #[.string s], .string ⟨#[98, 108, 105, 110, 100]⟩, .int .i64 32] w fun e w' => e = .returned (.string (bld s)) ∧ Below w.heap.size w w') := fun w h => hderived_any s lBlind 32 (by decide) (by decide) hs w h
  have D5 : Hid (∀ w, Kh w → Calls Tryz.prog 78 #[.agg #[.string s], .string ⟨#[116, 97, 103]⟩, .int .i64 16] w fun e w' => e = .returned (.string (hdk s lTag 16)) ∧ Below w.heap.size w w') := fun w h => hderived_any s lTag 16 (by decide) (by decide) hs w h
  unfold hk6
  generalize hdk s lFlow 32 = k1 at *
  generalize hdk s lMac 32 = k2 at *
  generalize hdk s lBody 32 = k3 at *
  generalize bld s = k4 at *
  generalize hdk s lTag 16 = k5 at *
  clear hs
  have h0 : w.heap.size ≠ w.heap.size + 1 := by omega
  go_enter Tryz.func49, Tryz.ntmps49
  go_wp2_with fail
  obtain ⟨W0, hW0⟩ : ∃ W, (w.alloc (.cells #[.string ⟨#[]⟩, .string ⟨#[]⟩, .string ⟨#[]⟩, .string ⟨#[]⟩, .string ⟨#[]⟩, .string ⟨#[]⟩] 70)).alloc (.cells #[.string s, .string ⟨#[]⟩, .string ⟨#[]⟩, .string ⟨#[]⟩, .string ⟨#[]⟩, .string ⟨#[]⟩] 70) = W := ⟨_, rfl⟩
  have S0 : Hid (Six W0 (w.heap.size + 1) s ⟨#[]⟩ ⟨#[]⟩ ⟨#[]⟩ ⟨#[]⟩ ⟨#[]⟩ ∧ Six W0 w.heap.size ⟨#[]⟩ ⟨#[]⟩ ⟨#[]⟩ ⟨#[]⟩ ⟨#[]⟩ ⟨#[]⟩ ∧ Below w.heap.size w W0) := by
    rw [← hW0]
    refine ⟨?_, (Six.new _ _ _ _ _ _ _ _).later ((Below.refl _ _).alloc (Nat.le_refl _) _), ((Below.refl _ _).alloc (Nat.le_refl _) _).alloc (by simp [go_sem]) _⟩
    have := Six.new (w.alloc (.cells #[.string ⟨#[]⟩, .string ⟨#[]⟩, .string ⟨#[]⟩, .string ⟨#[]⟩, .string ⟨#[]⟩, .string ⟨#[]⟩] 70)) 70 s ⟨#[]⟩ ⟨#[]⟩ ⟨#[]⟩ ⟨#[]⟩ ⟨#[]⟩
    simpa [go_sem] using this
  rw [hW0]
  clear hW0
  refine Calls.mono (D1.out _ (hK.out.later S0.out.2.2)) ?_
  rintro e v1 ⟨rfl, hb1⟩
  have Q1 : Hid (Six v1 (w.heap.size + 1) s ⟨#[]⟩ ⟨#[]⟩ ⟨#[]⟩ ⟨#[]⟩ ⟨#[]⟩ ∧ Six v1 w.heap.size ⟨#[]⟩ ⟨#[]⟩ ⟨#[]⟩ ⟨#[]⟩ ⟨#[]⟩ ⟨#[]⟩ ∧ Below w.heap.size w v1) := ⟨S0.out.1.later hb1, S0.out.2.1.later hb1, chain S0.out.2.2 hb1⟩
  clear hb1 S0 D1
  obtain ⟨fz, c0, c1, c2, c3, c4, c5⟩ := Q1.out.1
  have f1 := fz 1
  go_wp2_with fail
  obtain ⟨W1, hW1⟩ : ∃ W, v1.setCell ⟨w.heap.size + 1, 1, none⟩ (.string k1) = W := ⟨_, rfl⟩
  have S1 : Hid (Six W1 (w.heap.size + 1) s k1 ⟨#[]⟩ ⟨#[]⟩ ⟨#[]⟩ ⟨#[]⟩ ∧ Six W1 w.heap.size ⟨#[]⟩ ⟨#[]⟩ ⟨#[]⟩ ⟨#[]⟩ ⟨#[]⟩ ⟨#[]⟩ ∧ Below w.heap.size w W1) := by
    rw [← hW1]
    exact ⟨Q1.out.1.set1 k1, Q1.out.2.1.other (Ne.symm h0), Q1.out.2.2.setCell (p := ⟨w.heap.size + 1, 1, none⟩) (by simp) _⟩
  rw [hW1]
  clear hW1 Q1 fz c0 c1 c2 c3 c4 c5 f1
  refine Calls.mono (D2.out _ (hK.out.later S1.out.2.2)) ?_
  rintro e v2 ⟨rfl, hb2⟩
  have Q2 : Hid (Six v2 (w.heap.size + 1) s k1 ⟨#[]⟩ ⟨#[]⟩ ⟨#[]⟩ ⟨#[]⟩ ∧ Six v2 w.heap.size ⟨#[]⟩ ⟨#[]⟩ ⟨#[]⟩ ⟨#[]⟩ ⟨#[]⟩ ⟨#[]⟩ ∧ Below w.heap.size w v2) := ⟨S1.out.1.later hb2, S1.out.2.1.later hb2, chain S1.out.2.2 hb2⟩
  clear hb2 S1 D2
  obtain ⟨fz, c0, c1, c2, c3, c4, c5⟩ := Q2.out.1
  have f2 := fz 2
  go_wp2_with fail
  obtain ⟨W2, hW2⟩ : ∃ W, v2.setCell ⟨w.heap.size + 1, 2, none⟩ (.string k2) = W := ⟨_, rfl⟩
  have S2 : Hid (Six W2 (w.heap.size + 1) s k1 k2 ⟨#[]⟩ ⟨#[]⟩ ⟨#[]⟩ ∧ Six W2 w.heap.size ⟨#[]⟩ ⟨#[]⟩ ⟨#[]⟩ ⟨#[]⟩ ⟨#[]⟩ ⟨#[]⟩ ∧ Below w.heap.size w W2) := by
    rw [← hW2]
    exact ⟨Q2.out.1.set2 k2, Q2.out.2.1.other (Ne.symm h0), Q2.out.2.2.setCell (p := ⟨w.heap.size + 1, 2, none⟩) (by simp) _⟩
  rw [hW2]
  clear hW2 Q2 fz c0 c1 c2 c3 c4 c5 f2
  refine Calls.mono (D3.out _ (hK.out.later S2.out.2.2)) ?_
  rintro e v3 ⟨rfl, hb3⟩
  have Q3 : Hid (Six v3 (w.heap.size + 1) s k1 k2 ⟨#[]⟩ ⟨#[]⟩ ⟨#[]⟩ ∧ Six v3 w.heap.size ⟨#[]⟩ ⟨#[]⟩ ⟨#[]⟩ ⟨#[]⟩ ⟨#[]⟩ ⟨#[]⟩ ∧ Below w.heap.size w v3) := ⟨S2.out.1.later hb3, S2.out.2.1.later hb3, chain S2.out.2.2 hb3⟩
  clear hb3 S2 D3
  obtain ⟨fz, c0, c1, c2, c3, c4, c5⟩ := Q3.out.1
  have f3 := fz 3
  go_wp2_with fail
  obtain ⟨W3, hW3⟩ : ∃ W, v3.setCell ⟨w.heap.size + 1, 3, none⟩ (.string k3) = W := ⟨_, rfl⟩
  have S3 : Hid (Six W3 (w.heap.size + 1) s k1 k2 k3 ⟨#[]⟩ ⟨#[]⟩ ∧ Six W3 w.heap.size ⟨#[]⟩ ⟨#[]⟩ ⟨#[]⟩ ⟨#[]⟩ ⟨#[]⟩ ⟨#[]⟩ ∧ Below w.heap.size w W3) := by
    rw [← hW3]
    exact ⟨Q3.out.1.set3 k3, Q3.out.2.1.other (Ne.symm h0), Q3.out.2.2.setCell (p := ⟨w.heap.size + 1, 3, none⟩) (by simp) _⟩
  rw [hW3]
  clear hW3 Q3 fz c0 c1 c2 c3 c4 c5 f3
  refine Calls.mono (D4.out _ (hK.out.later S3.out.2.2)) ?_
  rintro e v4 ⟨rfl, hb4⟩
  have Q4 : Hid (Six v4 (w.heap.size + 1) s k1 k2 k3 ⟨#[]⟩ ⟨#[]⟩ ∧ Six v4 w.heap.size ⟨#[]⟩ ⟨#[]⟩ ⟨#[]⟩ ⟨#[]⟩ ⟨#[]⟩ ⟨#[]⟩ ∧ Below w.heap.size w v4) := ⟨S3.out.1.later hb4, S3.out.2.1.later hb4, chain S3.out.2.2 hb4⟩
  clear hb4 S3 D4
  obtain ⟨fz, c0, c1, c2, c3, c4, c5⟩ := Q4.out.1
  have f4 := fz 4
  go_wp2_with fail
  obtain ⟨W4, hW4⟩ : ∃ W, v4.setCell ⟨w.heap.size + 1, 4, none⟩ (.string k4) = W := ⟨_, rfl⟩
  have S4 : Hid (Six W4 (w.heap.size + 1) s k1 k2 k3 k4 ⟨#[]⟩ ∧ Six W4 w.heap.size ⟨#[]⟩ ⟨#[]⟩ ⟨#[]⟩ ⟨#[]⟩ ⟨#[]⟩ ⟨#[]⟩ ∧ Below w.heap.size w W4) := by
    rw [← hW4]
    exact ⟨Q4.out.1.set4 k4, Q4.out.2.1.other (Ne.symm h0), Q4.out.2.2.setCell (p := ⟨w.heap.size + 1, 4, none⟩) (by simp) _⟩
  rw [hW4]
  clear hW4 Q4 fz c0 c1 c2 c3 c4 c5 f4
  refine Calls.mono (D5.out _ (hK.out.later S4.out.2.2)) ?_
  rintro e v5 ⟨rfl, hb5⟩
  have Q5 : Hid (Six v5 (w.heap.size + 1) s k1 k2 k3 k4 ⟨#[]⟩ ∧ Six v5 w.heap.size ⟨#[]⟩ ⟨#[]⟩ ⟨#[]⟩ ⟨#[]⟩ ⟨#[]⟩ ⟨#[]⟩ ∧ Below w.heap.size w v5) := ⟨S4.out.1.later hb5, S4.out.2.1.later hb5, chain S4.out.2.2 hb5⟩
  clear hb5 S4 D5
  obtain ⟨fz, c0, c1, c2, c3, c4, c5⟩ := Q5.out.1
  have f5 := fz 5
  obtain ⟨gz, d0, d1, d2, d3, d4, d5⟩ := Q5.out.2.1
  have e0 := gz 0
  have e1 := gz 1
  have e2 := gz 2
  have e3 := gz 3
  have e4 := gz 4
  have e5 := gz 5
  have FF : Hid (_ ∧ _) := And.intro (Six.whole (Six.other (o := 5) (v := .string k5) Q5.out.2.1 (Ne.symm h0)) s k1 k2 k3 k4 k5) (below_six (Q5.out.2.2.setCell (p := ⟨w.heap.size + 1, 5, none⟩) (by simp) (.string k5)) (Nat.le_refl w.heap.size) (.string s) (.string k1) (.string k2) (.string k3) (.string k4) (.string k5))
  clear fz gz Q5
  go_wp2
  refine bodyPost_ret (v := .agg #[.string s, .string k1, .string k2, .string k3, .string k4, .string k5]) ?_ rfl ⟨rfl, FF.out.2⟩
  exact res_hk _ _ w.heap.size _ (by kernel_rfl) (run_loadVar_mid _ w.heap.size 0 70 [.string s, .string k1, .string k2, .string k3, .string k4, .string k5] _ (Six.range FF.out.1) Tryz.underlying70 rfl (by kernel_rfl))
end Go.Proofs.YtgnkkjknngblbaaGreatDoor
