/- The program's headers: Peel. -/
import Derived.Test.YtckfplpiakbbdaaGreatDoorZaG35
import Derived.Test.YtckfplpiakbbdaaGreatDoorZaG29
namespace Go.Proofs.YtckfplpiakbbdaaGreatDoor
open Go.RowKit Go.Proofs.Fd Go.Proofs.Hs Go.Proofs.Cc Go.Proofs.Hd Go.Proofs.Rt
set_option maxRecDepth 20000
theorem res_peel (tmps : Array Value) (w : World) (b c : Nat) (k n u d : Int) (id s k0 k1 k2 k3 k4 : ByteArray) (e : Int) (h4 : tmps.getD 4 undef = .pointer (some ⟨b, 0, none⟩)) (h5 : tmps.getD 5 undef = .string s) (h6 : tmps.getD 6 undef = .pointer (some ⟨c, 0, none⟩)) (h7 : tmps.getD 7 undef = .int .i64 e) (l : HopAt w b ⟨k, n, u, d, id⟩) (l2 : Five w c k0 k1 k2 k3 k4) :
    (results Tryz.f14 tmps).run Tryz.prog w = .ok (.tuple #[.agg #[.int .i64 k, .int .i64 n, .int .i64 u, .int .i64 d, .string id], .string s, .agg #[.string k0, .string k1, .string k2, .string k3, .string k4], .int .i64 e]) w := by
  have l1 := run_loadVar_mid (P := Tryz.prog) w b 0 37 [.int .i64 k, .int .i64 n, .int .i64 u, .int .i64 d, .string id] _ l.range Tryz.underlying37 rfl (by kernel_rfl)
  have l3 := run_loadVar_mid (P := Tryz.prog) w c 0 23 [.string k0, .string k1, .string k2, .string k3, .string k4] _ l2.range Tryz.underlying23 rfl (by kernel_rfl)
  unfold results
  rw [Tryz.results14]
  have h4' : tmps[4]?.getD undef = .pointer (some ⟨b, 0, none⟩) := by simpa using h4
  have h5' : tmps[5]?.getD undef = .string s := by simpa using h5
  have h6' : tmps[6]?.getD undef = .pointer (some ⟨c, 0, none⟩) := by simpa using h6
  have h7' : tmps[7]?.getD undef = .int .i64 e := by simpa using h7
  simp [h4', h5', h6', h7', l1, l3, asAddr]
def Two (w W : World) (x : Hp) (k0 k1 k2 k3 k4 : ByteArray) : Prop := HopAt W w.heap.size x ∧ Five W (w.heap.size + 1) k0 k1 k2 k3 k4 ∧ Below w.heap.size w W
theorem Two.later {w W W' : World} {x : Hp} {k0 k1 k2 k3 k4 : ByteArray} (h : Two w W x k0 k1 k2 k3 k4) (hb : Below W.heap.size W W') : Two w W' x k0 k1 k2 k3 k4 := ⟨h.1.later hb, h.2.1.later hb, chain h.2.2 hb⟩
theorem Two.new (w : World) : Two w ((w.alloc (.cells #[.int .i64 0, .int .i64 0, .int .i64 0, .int .i64 0, .string ⟨#[]⟩] 37)).alloc (.cells #[.string ⟨#[]⟩, .string ⟨#[]⟩, .string ⟨#[]⟩, .string ⟨#[]⟩, .string ⟨#[]⟩] 23)) zh ⟨#[]⟩ ⟨#[]⟩ ⟨#[]⟩ ⟨#[]⟩ ⟨#[]⟩ := by
  refine ⟨(HopAt.fresh _ _ _ _ _ _ _).later ((Below.refl _ _).alloc (Nat.le_refl _) _), ?_, ((Below.refl _ _).alloc (Nat.le_refl _) _).alloc (by simp [go_sem]) _⟩
  have := Five.new (w.alloc (.cells #[.int .i64 0, .int .i64 0, .int .i64 0, .int .i64 0, .string ⟨#[]⟩] 37)) 23 ⟨#[]⟩ ⟨#[]⟩ ⟨#[]⟩ ⟨#[]⟩ ⟨#[]⟩
  simpa [go_sem] using this
theorem Five.other {w : World} {g b o : Nat} {v : Value} {k0 k1 k2 k3 k4 : ByteArray} (h : Five w g k0 k1 k2 k3 k4) (hne : b ≠ g) : Five (w.setCell ⟨b, o, none⟩ v) g k0 k1 k2 k3 k4 := by
  obtain ⟨f, h0, h1, h2, h3, h4⟩ := h
  have e : ∀ j, (w.setCell ⟨b, o, none⟩ v).cell? ⟨g, j, none⟩ = w.cell? ⟨g, j, none⟩ := fun j => by simp [go_sem]
  have e2 : ∀ j, (w.setCell ⟨b, o, none⟩ v).frozen? ⟨g, j, none⟩ = w.frozen? ⟨g, j, none⟩ := fun j => by simp [go_sem]
  exact ⟨fun j => by rw [e2, f], by rw [e, h0], by rw [e, h1], by rw [e, h2], by rw [e, h3], by rw [e, h4]⟩
def putH (w : World) (g : Nat) (k n u d : Int) (id : ByteArray) : World := ((((w.setCell ⟨g, 0, none⟩ (.int .i64 k)).setCell ⟨g, 1, none⟩ (.int .i64 n)).setCell ⟨g, 2, none⟩ (.int .i64 u)).setCell ⟨g, 3, none⟩ (.int .i64 d)).setCell ⟨g, 4, none⟩ (.string id)
def putK (w : World) (g : Nat) (y0 y1 y2 y3 y4 : ByteArray) : World := ((((w.setCell ⟨g, 0, none⟩ (.string y0)).setCell ⟨g, 1, none⟩ (.string y1)).setCell ⟨g, 2, none⟩ (.string y2)).setCell ⟨g, 3, none⟩ (.string y3)).setCell ⟨g, 4, none⟩ (.string y4)
theorem Two.putH {w W : World} {x : Hp} {k0 k1 k2 k3 k4 : ByteArray} (h : Two w W x k0 k1 k2 k3 k4) (k n u d : Int) (id : ByteArray) : Two w (putH W w.heap.size k n u d id) ⟨k, n, u, d, id⟩ k0 k1 k2 k3 k4 := by
  have hne : w.heap.size ≠ w.heap.size + 1 := by omega
  have hb : w.heap.size ≤ w.heap.size := Nat.le_refl _
  unfold YtckfplpiakbbdaaGreatDoor.putH
  refine ⟨h.1.whole k n u d id, ((((h.2.1.other hne).other hne).other hne).other hne).other hne, ((((h.2.2.setCell (p := ⟨w.heap.size, 0, none⟩) hb _).setCell (p := ⟨w.heap.size, 1, none⟩) hb _).setCell (p := ⟨w.heap.size, 2, none⟩) hb _).setCell (p := ⟨w.heap.size, 3, none⟩) hb _).setCell (p := ⟨w.heap.size, 4, none⟩) hb _⟩
theorem Two.putK {w W : World} {x : Hp} {k0 k1 k2 k3 k4 : ByteArray} (h : Two w W x k0 k1 k2 k3 k4) (y0 y1 y2 y3 y4 : ByteArray) : Two w (putK W (w.heap.size + 1) y0 y1 y2 y3 y4) x y0 y1 y2 y3 y4 := by
  have hne : w.heap.size + 1 ≠ w.heap.size := by omega
  have hb : w.heap.size ≤ w.heap.size + 1 := by omega
  unfold YtckfplpiakbbdaaGreatDoor.putK
  refine ⟨((((h.1.other (a := ⟨w.heap.size + 1, 0, none⟩) hne _).other (a := ⟨w.heap.size + 1, 1, none⟩) hne _).other (a := ⟨w.heap.size + 1, 2, none⟩) hne _).other (a := ⟨w.heap.size + 1, 3, none⟩) hne _).other (a := ⟨w.heap.size + 1, 4, none⟩) hne _, h.2.1.whole y0 y1 y2 y3 y4, below_five h.2.2 hb _ _ _ _ _⟩
theorem Two.cells {w W : World} {k n u d : Int} {id k0 k1 k2 k3 k4 : ByteArray} (h : Two w W ⟨k, n, u, d, id⟩ k0 k1 k2 k3 k4) :
    (W.cell? ⟨w.heap.size, 0, none⟩ = some (.int .i64 k) ∧ W.cell? ⟨w.heap.size, 1, none⟩ = some (.int .i64 n) ∧ W.cell? ⟨w.heap.size, 2, none⟩ = some (.int .i64 u) ∧ W.cell? ⟨w.heap.size, 3, none⟩ = some (.int .i64 d) ∧ W.cell? ⟨w.heap.size, 4, none⟩ = some (.string id))
    ∧ (W.cell? ⟨w.heap.size + 1, 0, none⟩ = some (.string k0) ∧ W.cell? ⟨w.heap.size + 1, 1, none⟩ = some (.string k1) ∧ W.cell? ⟨w.heap.size + 1, 2, none⟩ = some (.string k2) ∧ W.cell? ⟨w.heap.size + 1, 3, none⟩ = some (.string k3) ∧ W.cell? ⟨w.heap.size + 1, 4, none⟩ = some (.string k4))
    ∧ (W.frozen? ⟨w.heap.size, 0, none⟩ = false ∧ W.frozen? ⟨w.heap.size, 1, none⟩ = false ∧ W.frozen? ⟨w.heap.size, 2, none⟩ = false ∧ W.frozen? ⟨w.heap.size, 3, none⟩ = false ∧ W.frozen? ⟨w.heap.size, 4, none⟩ = false)
    ∧ (W.frozen? ⟨w.heap.size + 1, 0, none⟩ = false ∧ W.frozen? ⟨w.heap.size + 1, 1, none⟩ = false ∧ W.frozen? ⟨w.heap.size + 1, 2, none⟩ = false ∧ W.frozen? ⟨w.heap.size + 1, 3, none⟩ = false ∧ W.frozen? ⟨w.heap.size + 1, 4, none⟩ = false) :=
  ⟨h.1.cells, h.2.1.2, ⟨h.1.1 0, h.1.1 1, h.1.1 2, h.1.1 3, h.1.1 4⟩, ⟨h.2.1.1 0, h.2.1.1 1, h.2.1.1 2, h.2.1.1 3, h.2.1.1 4⟩⟩
set_option maxHeartbeats 1000000 in
theorem peel_form (p h : ByteArray) (hf : ¬ (p.size = 32 ∧ h.size = 248)) (w : World) :
    Calls Tryz.prog 14 #[.string p, .string h] w fun e w' => e = .returned (.tuple #[hv zh, .string ⟨#[]⟩, kz, .int .i64 3]) ∧ Below w.heap.size w w' := by
  obtain ⟨d, hd⟩ : ∃ d : Bool, decide (p.size = 32) = d := ⟨_, rfl⟩
  have W1 : Hid (∀ (B : Nat) (w : World), w.cell? ⟨B, 0, none⟩ = some (.string p) → Calls Tryz.prog 21 #[.slice (some ⟨B, 0, none⟩) 1 1] w fun e w' => e = .returned (.bool d) ∧ Below w.heap.size w w') := fun B w h => by
    rw [← hd]; exact hwhole1_any p B w h
  have HD : Hid (d = true → ((h.size : Int) != 248) = true) := fun q => by
    rw [← hd] at q
    have := of_decide_eq_true q
    simp
    omega
  clear hd hf
  unfold hv zh kz
  simp only
  go_enter Tryz.func14, Tryz.ntmps14
  go_wp2_with fail
  refine Calls.mono (W1.out _ _ (by simp [go_sem])) ?_
  rintro e W' ⟨rfl, hb1⟩
  have J1 : Hid (Two w W' ⟨0, 0, 0, 0, ⟨#[]⟩⟩ ⟨#[]⟩ ⟨#[]⟩ ⟨#[]⟩ ⟨#[]⟩ ⟨#[]⟩) := ((Two.new w).later ((Below.refl _ _).alloc (Nat.le_refl _) _)).later hb1
  clear hb1 W1
  cases d with
  | false =>
    obtain ⟨⟨a0, a1, a2, a3, a4⟩, ⟨b0, b1, b2, b3, b4⟩, ⟨fa0, fa1, fa2, fa3, fa4⟩, ⟨fb0, fb1, fb2, fb3, fb4⟩⟩ := Two.cells J1.out
    have FF : Hid (Two w (putK (putH W' w.heap.size 0 0 0 0 ⟨#[]⟩) (w.heap.size + 1) ⟨#[]⟩ ⟨#[]⟩ ⟨#[]⟩ ⟨#[]⟩ ⟨#[]⟩) ⟨0, 0, 0, 0, ⟨#[]⟩⟩ ⟨#[]⟩ ⟨#[]⟩ ⟨#[]⟩ ⟨#[]⟩ ⟨#[]⟩) := (J1.out.putH 0 0 0 0 ⟨#[]⟩).putK ⟨#[]⟩ ⟨#[]⟩ ⟨#[]⟩ ⟨#[]⟩ ⟨#[]⟩
    unfold YtckfplpiakbbdaaGreatDoor.putH YtckfplpiakbbdaaGreatDoor.putK at FF
    go_wp2
    refine bodyPost_ret (v := .tuple #[.agg #[.int .i64 0, .int .i64 0, .int .i64 0, .int .i64 0, .string ⟨#[]⟩], .string ⟨#[]⟩, .agg #[.string ⟨#[]⟩, .string ⟨#[]⟩, .string ⟨#[]⟩, .string ⟨#[]⟩, .string ⟨#[]⟩], .int .i64 3]) ?_ rfl ⟨rfl, FF.out.2.2⟩
    exact res_peel _ _ w.heap.size (w.heap.size + 1) 0 0 0 0 ⟨#[]⟩ ⟨#[]⟩ ⟨#[]⟩ ⟨#[]⟩ ⟨#[]⟩ ⟨#[]⟩ ⟨#[]⟩ 3 (by kernel_rfl) (by kernel_rfl) (by kernel_rfl) (by kernel_rfl) FF.out.1 FF.out.2.1
  | true =>
    have g1 := HD.out rfl
    obtain ⟨⟨a0, a1, a2, a3, a4⟩, ⟨b0, b1, b2, b3, b4⟩, ⟨fa0, fa1, fa2, fa3, fa4⟩, ⟨fb0, fb1, fb2, fb3, fb4⟩⟩ := Two.cells J1.out
    have FF : Hid (Two w (putK (putH W' w.heap.size 0 0 0 0 ⟨#[]⟩) (w.heap.size + 1) ⟨#[]⟩ ⟨#[]⟩ ⟨#[]⟩ ⟨#[]⟩ ⟨#[]⟩) ⟨0, 0, 0, 0, ⟨#[]⟩⟩ ⟨#[]⟩ ⟨#[]⟩ ⟨#[]⟩ ⟨#[]⟩ ⟨#[]⟩) := (J1.out.putH 0 0 0 0 ⟨#[]⟩).putK ⟨#[]⟩ ⟨#[]⟩ ⟨#[]⟩ ⟨#[]⟩ ⟨#[]⟩
    unfold YtckfplpiakbbdaaGreatDoor.putH YtckfplpiakbbdaaGreatDoor.putK at FF
    go_wp2
    refine bodyPost_ret (v := .tuple #[.agg #[.int .i64 0, .int .i64 0, .int .i64 0, .int .i64 0, .string ⟨#[]⟩], .string ⟨#[]⟩, .agg #[.string ⟨#[]⟩, .string ⟨#[]⟩, .string ⟨#[]⟩, .string ⟨#[]⟩, .string ⟨#[]⟩], .int .i64 3]) ?_ rfl ⟨rfl, FF.out.2.2⟩
    exact res_peel _ _ w.heap.size (w.heap.size + 1) 0 0 0 0 ⟨#[]⟩ ⟨#[]⟩ ⟨#[]⟩ ⟨#[]⟩ ⟨#[]⟩ ⟨#[]⟩ ⟨#[]⟩ 3 (by kernel_rfl) (by kernel_rfl) (by kernel_rfl) (by kernel_rfl) FF.out.1 FF.out.2.1
end Go.Proofs.YtckfplpiakbbdaaGreatDoor
