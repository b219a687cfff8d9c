/- Parts: HP2, HP3, HP4. -/
import Derived.Test.YtckfplpiakbbdaaGreatDoorZaG34
import Derived.Test.YtckfplpiakbbdaaGreatDoorZaG17
import Derived.Laws.OwnMore
namespace Go.Proofs.YtckfplpiakbbdaaGreatDoor
open Go.RowKit Go.Proofs.Fd Go.Proofs.Hs Go.Proofs.Cc Go.Proofs.Hd Go.Proofs.Rt
set_option maxRecDepth 20000
theorem Six.other {w : World} {g b o : Nat} {v : Value} {k0 k1 k2 k3 k4 k5 : ByteArray} (h : Six w g k0 k1 k2 k3 k4 k5) (hne : b ≠ g) : Six (w.setCell ⟨b, o, none⟩ v) g k0 k1 k2 k3 k4 k5 := by
  obtain ⟨f, h0, h1, h2, h3, h4, h5⟩ := h
  have e : ∀ j, (w.setCell ⟨b, o, none⟩ v).cell? ⟨g, j, none⟩ = w.cell? ⟨g, j, none⟩ := fun j => by simp [go_sem]
  have e2 : ∀ j, (w.setCell ⟨b, o, none⟩ v).frozen? ⟨g, j, none⟩ = w.frozen? ⟨g, j, none⟩ := fun j => by simp [go_sem]
  exact ⟨fun j => by rw [e2, f], by rw [e, h0], by rw [e, h1], by rw [e, h2], by rw [e, h3], by rw [e, h4], by rw [e, h5]⟩
theorem field_keys (s k1 k2 k3 k4 k5 : ByteArray) (w : World) : (Instr.field 55 (.agg #[.string s, .string k1, .string k2, .string k3, .string k4, .string k5]) 1).run Tryz.prog w = .ok (.agg #[.string k1, .string k2, .string k3, .string k4, .string k5]) w := by kernel_rfl
theorem res_hk (tmps : Array Value) (w : World) (b : Nat) (x : Array Value) (h0 : tmps.getD 2 undef = .pointer (some ⟨b, 0, none⟩))
    (l1 : (loadVar 55 ⟨b, 0, none⟩).run Tryz.prog w = .ok (.agg x) w) :
    (results Tryz.f22 tmps).run Tryz.prog w = .ok (.agg x) w := by
  unfold results
  rw [Tryz.results22]
  have h0' : tmps[2]?.getD undef = .pointer (some ⟨b, 0, none⟩) := by simpa using h0
  simp [h0', l1, asAddr]
set_option maxHeartbeats 1000000 in
theorem keysOf_any (s : ByteArray) (hs : Hid (s.size + 64 ≤ 140737488355328)) (w : World) (hK : Hid (Kh w)) :
    Calls Tryz.prog 22 #[.string s] w fun e w' => e = .returned (hk6 s) ∧ Below w.heap.size w w' := by
  have D1 : Hid (∀ w, Kh w → Calls Tryz.prog 49 #[.agg #[.string s], .string ⟨#[102, 108, 111, 119]⟩, .int .i64 32] w fun e w' => e = .returned (.string (hdk s lFlow 32)) ∧ Below w.heap.size w w') := fun w h => hderived_any s lFlow 32 (by decide) (by decide) hs w h
  have D2 : Hid (∀ w, Kh w → Calls Tryz.prog 49 #[.agg #[.string s], .string ⟨#[109, 97, 99]⟩, .int .i64 32] w fun e w' => e = .returned (.string (hdk s lMac 32)) ∧ Below w.heap.size w w') := fun w h => hderived_any s lMac 32 (by decide) (by decide) hs w h
  have D3 : Hid (∀ w, Kh w → Calls Tryz.prog 49 #[.agg #[.string s], .string ⟨#[98, 111, 100, 121]⟩, .int .i64 32] w fun e w' => e = .returned (.string (hdk s lBody 32)) ∧ Below w.heap.size w w') := fun w h => hderived_any s lBody 32 (by decide) (by decide) hs w h
  have D4 : Hid (∀ w, Kh w → Calls Tryz.prog 49 #[.agg #[.string s], .string ⟨#[98, 108, 105, 110, 100]⟩, .int .i64 32] w fun e w' => e = .returned (.string (bld s)) ∧ Below w.heap.size w w') := fun w h => hderived_any s lBlind 32 (by decide) (by decide) hs w h
  have D5 : Hid (∀ w, Kh w → Calls Tryz.prog 49 #[.agg #[.string s], .string ⟨#[116, 97, 103]⟩, .int .i64 16] w fun e w' => e = .returned (.string (hdk s lTag 16)) ∧ Below w.heap.size w w') := fun w h => hderived_any s lTag 16 (by decide) (by decide) hs w h
  unfold hk6
  generalize hdk s lFlow 32 = k1 at *
  generalize hdk s lMac 32 = k2 at *
  generalize hdk s lBody 32 = k3 at *
  generalize bld s = k4 at *
  generalize hdk s lTag 16 = k5 at *
  clear hs
  have h0 : w.heap.size ≠ w.heap.size + 1 := by omega
  go_enter Tryz.func22, Tryz.ntmps22
  go_wp2_with fail
  obtain ⟨W0, hW0⟩ : ∃ W, (w.alloc (.cells #[.string ⟨#[]⟩, .string ⟨#[]⟩, .string ⟨#[]⟩, .string ⟨#[]⟩, .string ⟨#[]⟩, .string ⟨#[]⟩] 55)).alloc (.cells #[.string s, .string ⟨#[]⟩, .string ⟨#[]⟩, .string ⟨#[]⟩, .string ⟨#[]⟩, .string ⟨#[]⟩] 55) = W := ⟨_, rfl⟩
  have S0 : Hid (Six W0 (w.heap.size + 1) s ⟨#[]⟩ ⟨#[]⟩ ⟨#[]⟩ ⟨#[]⟩ ⟨#[]⟩ ∧ Six W0 w.heap.size ⟨#[]⟩ ⟨#[]⟩ ⟨#[]⟩ ⟨#[]⟩ ⟨#[]⟩ ⟨#[]⟩ ∧ Below w.heap.size w W0) := by
    rw [← hW0]
    refine ⟨?_, (Six.new _ _ _ _ _ _ _ _).later ((Below.refl _ _).alloc (Nat.le_refl _) _), ((Below.refl _ _).alloc (Nat.le_refl _) _).alloc (by simp [go_sem]) _⟩
    have := Six.new (w.alloc (.cells #[.string ⟨#[]⟩, .string ⟨#[]⟩, .string ⟨#[]⟩, .string ⟨#[]⟩, .string ⟨#[]⟩, .string ⟨#[]⟩] 55)) 55 s ⟨#[]⟩ ⟨#[]⟩ ⟨#[]⟩ ⟨#[]⟩ ⟨#[]⟩
    simpa [go_sem] using this
  rw [hW0]
  clear hW0
  refine Calls.mono (D1.out _ (hK.out.later S0.out.2.2)) ?_
  rintro e v1 ⟨rfl, hb1⟩
  have Q1 : Hid (Six v1 (w.heap.size + 1) s ⟨#[]⟩ ⟨#[]⟩ ⟨#[]⟩ ⟨#[]⟩ ⟨#[]⟩ ∧ Six v1 w.heap.size ⟨#[]⟩ ⟨#[]⟩ ⟨#[]⟩ ⟨#[]⟩ ⟨#[]⟩ ⟨#[]⟩ ∧ Below w.heap.size w v1) := ⟨S0.out.1.later hb1, S0.out.2.1.later hb1, chain S0.out.2.2 hb1⟩
  clear hb1 S0 D1
  obtain ⟨fz, c0, c1, c2, c3, c4, c5⟩ := Q1.out.1
  have f1 := fz 1
  go_wp2_with fail
  obtain ⟨W1, hW1⟩ : ∃ W, v1.setCell ⟨w.heap.size + 1, 1, none⟩ (.string k1) = W := ⟨_, rfl⟩
  have S1 : Hid (Six W1 (w.heap.size + 1) s k1 ⟨#[]⟩ ⟨#[]⟩ ⟨#[]⟩ ⟨#[]⟩ ∧ Six W1 w.heap.size ⟨#[]⟩ ⟨#[]⟩ ⟨#[]⟩ ⟨#[]⟩ ⟨#[]⟩ ⟨#[]⟩ ∧ Below w.heap.size w W1) := by
    rw [← hW1]
    exact ⟨Q1.out.1.set1 k1, Q1.out.2.1.other (Ne.symm h0), Q1.out.2.2.setCell (p := ⟨w.heap.size + 1, 1, none⟩) (by simp) _⟩
  rw [hW1]
  clear hW1 Q1 fz c0 c1 c2 c3 c4 c5 f1
  refine Calls.mono (D2.out _ (hK.out.later S1.out.2.2)) ?_
  rintro e v2 ⟨rfl, hb2⟩
  have Q2 : Hid (Six v2 (w.heap.size + 1) s k1 ⟨#[]⟩ ⟨#[]⟩ ⟨#[]⟩ ⟨#[]⟩ ∧ Six v2 w.heap.size ⟨#[]⟩ ⟨#[]⟩ ⟨#[]⟩ ⟨#[]⟩ ⟨#[]⟩ ⟨#[]⟩ ∧ Below w.heap.size w v2) := ⟨S1.out.1.later hb2, S1.out.2.1.later hb2, chain S1.out.2.2 hb2⟩
  clear hb2 S1 D2
  obtain ⟨fz, c0, c1, c2, c3, c4, c5⟩ := Q2.out.1
  have f2 := fz 2
  go_wp2_with fail
  obtain ⟨W2, hW2⟩ : ∃ W, v2.setCell ⟨w.heap.size + 1, 2, none⟩ (.string k2) = W := ⟨_, rfl⟩
  have S2 : Hid (Six W2 (w.heap.size + 1) s k1 k2 ⟨#[]⟩ ⟨#[]⟩ ⟨#[]⟩ ∧ Six W2 w.heap.size ⟨#[]⟩ ⟨#[]⟩ ⟨#[]⟩ ⟨#[]⟩ ⟨#[]⟩ ⟨#[]⟩ ∧ Below w.heap.size w W2) := by
    rw [← hW2]
    exact ⟨Q2.out.1.set2 k2, Q2.out.2.1.other (Ne.symm h0), Q2.out.2.2.setCell (p := ⟨w.heap.size + 1, 2, none⟩) (by simp) _⟩
  rw [hW2]
  clear hW2 Q2 fz c0 c1 c2 c3 c4 c5 f2
  refine Calls.mono (D3.out _ (hK.out.later S2.out.2.2)) ?_
  rintro e v3 ⟨rfl, hb3⟩
  have Q3 : Hid (Six v3 (w.heap.size + 1) s k1 k2 ⟨#[]⟩ ⟨#[]⟩ ⟨#[]⟩ ∧ Six v3 w.heap.size ⟨#[]⟩ ⟨#[]⟩ ⟨#[]⟩ ⟨#[]⟩ ⟨#[]⟩ ⟨#[]⟩ ∧ Below w.heap.size w v3) := ⟨S2.out.1.later hb3, S2.out.2.1.later hb3, chain S2.out.2.2 hb3⟩
  clear hb3 S2 D3
  obtain ⟨fz, c0, c1, c2, c3, c4, c5⟩ := Q3.out.1
  have f3 := fz 3
  go_wp2_with fail
  obtain ⟨W3, hW3⟩ : ∃ W, v3.setCell ⟨w.heap.size + 1, 3, none⟩ (.string k3) = W := ⟨_, rfl⟩
  have S3 : Hid (Six W3 (w.heap.size + 1) s k1 k2 k3 ⟨#[]⟩ ⟨#[]⟩ ∧ Six W3 w.heap.size ⟨#[]⟩ ⟨#[]⟩ ⟨#[]⟩ ⟨#[]⟩ ⟨#[]⟩ ⟨#[]⟩ ∧ Below w.heap.size w W3) := by
    rw [← hW3]
    exact ⟨Q3.out.1.set3 k3, Q3.out.2.1.other (Ne.symm h0), Q3.out.2.2.setCell (p := ⟨w.heap.size + 1, 3, none⟩) (by simp) _⟩
  rw [hW3]
  clear hW3 Q3 fz c0 c1 c2 c3 c4 c5 f3
  refine Calls.mono (D4.out _ (hK.out.later S3.out.2.2)) ?_
  rintro e v4 ⟨rfl, hb4⟩
  have Q4 : Hid (Six v4 (w.heap.size + 1) s k1 k2 k3 ⟨#[]⟩ ⟨#[]⟩ ∧ Six v4 w.heap.size ⟨#[]⟩ ⟨#[]⟩ ⟨#[]⟩ ⟨#[]⟩ ⟨#[]⟩ ⟨#[]⟩ ∧ Below w.heap.size w v4) := ⟨S3.out.1.later hb4, S3.out.2.1.later hb4, chain S3.out.2.2 hb4⟩
  clear hb4 S3 D4
  obtain ⟨fz, c0, c1, c2, c3, c4, c5⟩ := Q4.out.1
  have f4 := fz 4
  go_wp2_with fail
  obtain ⟨W4, hW4⟩ : ∃ W, v4.setCell ⟨w.heap.size + 1, 4, none⟩ (.string k4) = W := ⟨_, rfl⟩
  have S4 : Hid (Six W4 (w.heap.size + 1) s k1 k2 k3 k4 ⟨#[]⟩ ∧ Six W4 w.heap.size ⟨#[]⟩ ⟨#[]⟩ ⟨#[]⟩ ⟨#[]⟩ ⟨#[]⟩ ⟨#[]⟩ ∧ Below w.heap.size w W4) := by
    rw [← hW4]
    exact ⟨Q4.out.1.set4 k4, Q4.out.2.1.other (Ne.symm h0), Q4.out.2.2.setCell (p := ⟨w.heap.size + 1, 4, none⟩) (by simp) _⟩
  rw [hW4]
  clear hW4 Q4 fz c0 c1 c2 c3 c4 c5 f4
  refine Calls.mono (D5.out _ (hK.out.later S4.out.2.2)) ?_
  rintro e v5 ⟨rfl, hb5⟩
  have Q5 : Hid (Six v5 (w.heap.size + 1) s k1 k2 k3 k4 ⟨#[]⟩ ∧ Six v5 w.heap.size ⟨#[]⟩ ⟨#[]⟩ ⟨#[]⟩ ⟨#[]⟩ ⟨#[]⟩ ⟨#[]⟩ ∧ Below w.heap.size w v5) := ⟨S4.out.1.later hb5, S4.out.2.1.later hb5, chain S4.out.2.2 hb5⟩
  clear hb5 S4 D5
  obtain ⟨fz, c0, c1, c2, c3, c4, c5⟩ := Q5.out.1
  have f5 := fz 5
  obtain ⟨gz, d0, d1, d2, d3, d4, d5⟩ := Q5.out.2.1
  have e0 := gz 0
  have e1 := gz 1
  have e2 := gz 2
  have e3 := gz 3
  have e4 := gz 4
  have e5 := gz 5
  have FF : Hid (_ ∧ _) := And.intro (Six.whole (Six.other (o := 5) (v := .string k5) Q5.out.2.1 (Ne.symm h0)) s k1 k2 k3 k4 k5) (below_six (Q5.out.2.2.setCell (p := ⟨w.heap.size + 1, 5, none⟩) (by simp) (.string k5)) (Nat.le_refl w.heap.size) (.string s) (.string k1) (.string k2) (.string k3) (.string k4) (.string k5))
  clear fz gz Q5
  go_wp2
  refine bodyPost_ret (v := .agg #[.string s, .string k1, .string k2, .string k3, .string k4, .string k5]) ?_ rfl ⟨rfl, FF.out.2⟩
  exact res_hk _ _ w.heap.size _ (by kernel_rfl) (run_loadVar_mid _ w.heap.size 0 55 [.string s, .string k1, .string k2, .string k3, .string k4, .string k5] _ (Six.range FF.out.1) Tryz.underlying55 rfl (by kernel_rfl))
theorem res_of (tmps : Array Value) (w : World) (b : Nat) (k0 k1 k2 k3 k4 : ByteArray) (e : Int) (h2 : tmps.getD 2 undef = .pointer (some ⟨b, 0, none⟩)) (h3 : tmps.getD 3 undef = .int .i64 e) (l : Five w b k0 k1 k2 k3 k4) :
    (results Tryz.f9 tmps).run Tryz.prog w = .ok (.tuple #[.agg #[.string k0, .string k1, .string k2, .string k3, .string k4], .int .i64 e]) w := by
  have l1 := run_loadVar_mid (P := Tryz.prog) w b 0 23 [.string k0, .string k1, .string k2, .string k3, .string k4] _ l.range Tryz.underlying23 rfl (by kernel_rfl)
  unfold results
  rw [Tryz.results9]
  have h2' : tmps[2]?.getD undef = .pointer (some ⟨b, 0, none⟩) := by simpa using h2
  have h3' : tmps[3]?.getD undef = .int .i64 e := by simpa using h3
  simp [h2', h3', l1, asAddr]
set_option maxHeartbeats 1000000 in
theorem of_c : OfC := fun s w hs hK => by
  obtain ⟨dz, hdz⟩ : ∃ b : Bool, decide (s.size = 32) = b := ⟨_, rfl⟩
  have KO : Hid (∀ w, Kh w → Calls Tryz.prog 22 #[.string s] w fun e w' => e = .returned (hk6 s) ∧ Below w.heap.size w w') := fun w h => keysOf_any s hs w h
  have WH : Hid (∀ (B : Nat) (w : World), w.cell? ⟨B, 0, none⟩ = some (.string s) → Calls Tryz.prog 21 #[.slice (some ⟨B, 0, none⟩) 1 1] w fun e w' => e = .returned (.bool dz) ∧ Below w.heap.size w w') := fun B w h => by
    rw [← hdz]; exact hwhole1_any s B w h
  have EV : Hid ((dz = true → ofV s = #[kv s, .int .i64 0]) ∧ (dz = false → ofV s = #[kz, .int .i64 3])) := by
    rw [← hdz]
    unfold ofV
    exact ⟨fun h => by rw [if_pos (of_decide_eq_true h)], fun h => by rw [if_neg (of_decide_eq_false h)]⟩
  unfold hk6 at KO
  unfold kv at EV
  unfold kz at EV
  generalize ofV s = V at *
  generalize hdk s lFlow 32 = k1 at *
  generalize hdk s lMac 32 = k2 at *
  generalize hdk s lBody 32 = k3 at *
  generalize bld s = k4 at *
  generalize hdk s lTag 16 = k5 at *
  clear hdz hs
  go_enter Tryz.func9, Tryz.ntmps9
  go_wp2_with fail
  refine Calls.mono (WH.out _ _ (by simp [go_sem])) ?_
  rintro e w1 ⟨rfl, hb1⟩
  have S1 : Hid (Five w1 w.heap.size ⟨#[]⟩ ⟨#[]⟩ ⟨#[]⟩ ⟨#[]⟩ ⟨#[]⟩ ∧ Below w.heap.size w w1) := by
    have B0 := ((Below.refl w.heap.size w).alloc (Nat.le_refl _) (.cells #[.string ⟨#[]⟩, .string ⟨#[]⟩, .string ⟨#[]⟩, .string ⟨#[]⟩, .string ⟨#[]⟩] 23)).alloc (by simp [go_sem]) (.cells #[.string s] 9)
    exact ⟨((Five.new _ _ _ _ _ _ _).later ((Below.refl _ _).alloc (Nat.le_refl _) _)).later hb1, chain B0 hb1⟩
  clear hb1 WH
  cases dz with
  | true =>
    go_wp2_with fail
    refine Calls.mono (KO.out _ (hK.out.later S1.out.2)) ?_
    rintro e w2 ⟨rfl, hb2⟩
    have S2 : Hid (Five w2 w.heap.size ⟨#[]⟩ ⟨#[]⟩ ⟨#[]⟩ ⟨#[]⟩ ⟨#[]⟩ ∧ Below w.heap.size w w2) := ⟨S1.out.1.later hb2, chain S1.out.2 hb2⟩
    obtain ⟨gz, d0, d1, d2, d3, d4⟩ := S2.out.1
    have e0 := gz 0
    have e1 := gz 1
    have e2 := gz 2
    have e3 := gz 3
    have e4 := gz 4
    have FF : Hid (_ ∧ _) := And.intro (Five.whole S2.out.1 k1 k2 k3 k4 k5) (below_five S2.out.2 (Nat.le_refl w.heap.size) (.string k1) (.string k2) (.string k3) (.string k4) (.string k5))
    clear gz hb2 S1 S2
    have fk := field_keys s k1 k2 k3 k4 k5
    go_wp2
    refine bodyPost_ret (v := .tuple #[.agg #[.string k1, .string k2, .string k3, .string k4, .string k5], .int .i64 0]) ?_ rfl ⟨by rw [EV.out.1 (by first | rfl | trivial)], FF.out.2⟩
    exact res_of _ _ w.heap.size k1 k2 k3 k4 k5 0 (by kernel_rfl) (by kernel_rfl) FF.out.1
  | false =>
    obtain ⟨gz, d0, d1, d2, d3, d4⟩ := S1.out.1
    have e0 := gz 0
    have e1 := gz 1
    have e2 := gz 2
    have e3 := gz 3
    have e4 := gz 4
    have FF : Hid (_ ∧ _) := And.intro (Five.whole S1.out.1 ⟨#[]⟩ ⟨#[]⟩ ⟨#[]⟩ ⟨#[]⟩ ⟨#[]⟩) (below_five S1.out.2 (Nat.le_refl w.heap.size) (.string ⟨#[]⟩) (.string ⟨#[]⟩) (.string ⟨#[]⟩) (.string ⟨#[]⟩) (.string ⟨#[]⟩))
    clear gz S1
    go_wp2
    refine bodyPost_ret (v := .tuple #[.agg #[.string ⟨#[]⟩, .string ⟨#[]⟩, .string ⟨#[]⟩, .string ⟨#[]⟩, .string ⟨#[]⟩], .int .i64 3]) ?_ rfl ⟨by rw [EV.out.2 (by first | rfl | trivial)], FF.out.2⟩
    exact res_of _ _ w.heap.size ⟨#[]⟩ ⟨#[]⟩ ⟨#[]⟩ ⟨#[]⟩ ⟨#[]⟩ 3 (by kernel_rfl) (by kernel_rfl) FF.out.1
end Go.Proofs.YtckfplpiakbbdaaGreatDoor
namespace Go.Proofs.YtckfplpiakbbdaaGreatDoor
open Go.RowKit Go.Proofs.Fd Go.Proofs.Hs Go.Proofs.Cc Go.Proofs.Hd Go.Proofs.Rt
set_option maxRecDepth 20000
def HksAt (w : World) (a : Option Addr) (ss : List ByteArray) : Prop := ∀ i, i < ss.length → ∃ b o, a = some ⟨b, o, none⟩
    ∧ w.cell? ⟨b, o + i * 6, none⟩ = some (.string (nth ss i)) ∧ w.cell? ⟨b, o + i * 6 + 1, none⟩ = some (.string (hdk (nth ss i) lFlow 32)) ∧ w.cell? ⟨b, o + i * 6 + 2, none⟩ = some (.string (hdk (nth ss i) lMac 32)) ∧ w.cell? ⟨b, o + i * 6 + 3, none⟩ = some (.string (hdk (nth ss i) lBody 32))
    ∧ w.cell? ⟨b, o + i * 6 + 4, none⟩ = some (.string (bld (nth ss i))) ∧ w.cell? ⟨b, o + i * 6 + 5, none⟩ = some (.string (hdk (nth ss i) lTag 16))
theorem HksAt.later {w w' : World} {a : Option Addr} {ss : List ByteArray} (h : HksAt w a ss) (hb : Below w.heap.size w w') : HksAt w' a ss := fun i hi => by
  obtain ⟨b, o, ha, c0, c1, c2, c3, c4, c5⟩ := h i hi
  exact ⟨b, o, ha, cell_later hb c0, cell_later hb c1, cell_later hb c2, cell_later hb c3, cell_later hb c4, cell_later hb c5⟩
theorem ba_app (a b : ByteArray) : (a ++ b).data.toList = a.data.toList ++ b.data.toList := by simp
theorem ba_add (a b : ByteArray) : (a ++ b).size = a.size + b.size := by simp
def fbs (ss : List ByteArray) (i : Nat) : ByteArray := ⟨(fil (fun i => hflow (nth ss i)) i).toArray⟩
theorem fbs_size (ss : List ByteArray) (i : Nat) (hi : i ≤ 6) : (fbs ss i).size = 40 * i := by
  unfold fbs; rw [ba_sz, fil_len _ (fun _ => hflow_len _) i hi]
theorem fbs_step (ss : List ByteArray) (i m : Nat) (hi : i ≤ 4) (hm : m + 40 * (i + 1) = 240) : (htn (nth ss i) (zba m ++ (fbs ss i ++ zba 40))).extract m 240 = fbs ss (i + 1) := by
  have hl : (fil (fun i => hflow (nth ss i)) i).length = 40 * i := fil_len _ (fun _ => hflow_len _) i (by omega)
  have e : ((htn (nth ss i) (zba m ++ (fbs ss i ++ zba 40))).extract m 240).data.toList = fil (fun i => hflow (nth ss i)) (i + 1) := by
    unfold htn
    rw [ba_cut, xorl_dp, ba_app, zba_data, List.drop_append_of_le_length (by rw [List.length_replicate]; exact Nat.le_refl _), List.drop_of_length_le (by rw [List.length_replicate]; exact Nat.le_refl _), List.nil_append, ba_app, zba_data, fil_succ, show 240 - 40 * (i + 1) = m by omega]
    have eq : (fbs ss i).data.toList = fil (fun i => hflow (nth ss i)) i := rfl
    rw [eq]
    apply List.take_of_length_le
    rw [xorl_len _ _ (by rw [List.length_append, hl, List.length_replicate, List.length_drop, hflow_len]; omega), List.length_append, hl, List.length_replicate]
    omega
  exact ba_of e
set_option maxHeartbeats 1000000 in
theorem filler_any (a : Option Addr) (ss : List ByteArray) (n cap : Nat) (hn : Hid (n ≤ ss.length)) (h4 : n ≤ 4) (w : World) (hc : Hid (HksAt w a ss)) :
    Calls Tryz.prog 54 #[.slice a n cap] w fun e w' => e = .returned (.string (fbs ss n)) ∧ Below w.heap.size w w' := by
  have Z40 : Hid (∀ w, Calls Tryz.prog 39 #[.int .i64 40] w fun e w' => e = .returned (.string (zba 40)) ∧ Below w.heap.size w w') := fun w => zeros_any 40 (by decide) (by decide) w
  go_enter Tryz.func54, Tryz.ntmps54
  go_wp2_with fail
  go_loopw [3, 9] (fun fv iv wr => ∃ k : Nat, k ≤ n ∧ iv = .int .i64 (k : Int) ∧ fv = .string (fbs ss k) ∧ Hid (Below w.heap.size w wr)) (fun _ iv _ => n - (intOf iv).toNat)
  case atStart => exact ⟨0, Nat.zero_le _, rfl, rfl, Below.refl _ _⟩
  case round =>
    obtain ⟨k, hk, rfl, rfl, I⟩ := hrel
    by_cases hlt : k < n
    · have g1 : (k : Int) < (n : Int) := by omega
      obtain ⟨b, o, rfl, c0, c1, c2, c3, c4, c5⟩ := HksAt.later hc.out I.out k (by have := hn.out; omega)
      obtain ⟨m, hm⟩ : ∃ m, m + 40 * (k + 1) = 240 := ⟨200 - 40 * k, by omega⟩
      obtain ⟨G, hG⟩ : ∃ G : ByteArray, fbs ss k ++ zba 40 = G := ⟨_, rfl⟩
      have zF := fbs_size ss k (by omega)
      have zG : G.size = 40 * (k + 1) := by rw [← hG, ba_add, zF, zba_size]; omega
      obtain ⟨H, hH⟩ : ∃ H : ByteArray, zba m ++ G = H := ⟨_, rfl⟩
      have zH : H.size = 240 := by rw [← hH, ba_add, zba_size, zG]; omega
      obtain ⟨Y, hY⟩ : ∃ Y : ByteArray, htn (nth ss k) H = Y := ⟨_, rfl⟩
      have zY : Y.size = 240 := by rw [← hY, htn_size _ _ (by omega), zH]
      have ST : Hid (Y.extract m 240 = fbs ss (k + 1)) := by
        rw [← hY, ← hH, ← hG]; exact fbs_step ss k m (by omega) hm
      have A1 : ∀ w, (Op.stringOp .add (fbs ss k) (zba 40)).run Tryz.prog w = .ok (.string G) w := fun w => by
        rw [← hG]; exact run_string_add_sum _ _ _ (by rw [zF, zba_size]; omega)
      have A2 : ∀ w, (Op.stringOp .add (zba m) G).run Tryz.prog w = .ok (.string H) w := fun w => by
        rw [← hH]; exact run_string_add_sum _ _ _ (by rw [zba_size, zG]; omega)
      have ZM : Hid (∀ w, Calls Tryz.prog 39 #[.int .i64 (m : Int)] w fun e w' => e = .returned (.string (zba m)) ∧ Below w.heap.size w w') := fun w => zeros_any m (by omega) (by omega) w
      have TU : Hid (∀ w, Calls Tryz.prog 38 #[hk6 (nth ss k), .string H] w fun e w' => e = .returned (.string Y) ∧ Below w.heap.size w w') := fun w => by
        rw [← hY]; exact hturned_any _ _ (by omega) w
      unfold hk6 at TU
      have zM := zba_size m
      have zMi : ((zba m).size : Int) = (m : Int) := by omega
      have zYi : (Y.size : Int) = 240 := by omega
      have s1 : IntKind.i64.wrap (240 - (G.size : Int)) = (m : Int) := by rw [IntKind.wrap_i64]; omega
      have s2 : wrap64 (240 - (G.size : Int)) = (m : Int) := by unfold wrap64; omega
      have m240 : (m : Int) ≤ 240 := by omega
      clear hG hH hY zG zH zF
      generalize zba m = Zm at *
      generalize zba 40 = Z at *
      obtain ⟨F, hF⟩ : ∃ F : ByteArray, fbs ss k = F := ⟨_, rfl⟩
      rw [hF] at A1 ⊢
      clear hF
      generalize nth ss k = s at *
      generalize hdk s lFlow 32 = k1 at *
      generalize hdk s lMac 32 = k2 at *
      generalize hdk s lBody 32 = k3 at *
      generalize bld s = k4 at *
      generalize hdk s lTag 16 = k5 at *
      go_wp2_with fail
      obtain ⟨A, hA⟩ : ∃ A, wr.alloc (.cells #[.string s, .string k1, .string k2, .string k3, .string k4, .string k5] 55) = A := ⟨_, rfl⟩
      have J : Hid (Six A wr.heap.size s k1 k2 k3 k4 k5 ∧ Below w.heap.size w A) := by
        rw [← hA]
        exact ⟨Six.new _ _ _ _ _ _ _ _, I.out.alloc I.out.size _⟩
      rw [hA]
      clear hA c0 c1 c2 c3 c4 c5 I
      generalize wr.heap.size = g at *
      refine Calls.mono (Z40.out _) ?_
      rintro e w1 ⟨rfl, hb1⟩
      have J1 : Hid (Six w1 g s k1 k2 k3 k4 k5 ∧ Below w.heap.size w w1) := ⟨J.out.1.later hb1, chain J.out.2 hb1⟩
      clear hb1 J Z40
      go_wp2_with fail
      refine Calls.mono (ZM.out _) ?_
      rintro e w2 ⟨rfl, hb2⟩
      have J2 : Hid (Six w2 g s k1 k2 k3 k4 k5 ∧ Below w.heap.size w w2) := ⟨J1.out.1.later hb2, chain J1.out.2 hb2⟩
      clear hb2 J1 ZM
      obtain ⟨-, c0, c1, c2, c3, c4, c5⟩ := J2.out.1
      go_wp2_with fail
      refine Calls.mono (TU.out _) ?_
      rintro e w3 ⟨rfl, hb3⟩
      have B3 : Hid (Below w.heap.size w w3) := chain J2.out.2 hb3
      clear hb3 J2 TU c0 c1 c2 c3 c4 c5
      go_wp2
      go_roundw
      case rel => exact ⟨k + 1, by omega, by go_num, by rw [ST.out], B3.out⟩
      case measure => simp [intOf]; omega
    · obtain rfl : k = n := by omega
      have g1 : ¬ (k : Int) < (k : Int) := by omega
      go_wp2
      go_ret
      exact ⟨rfl, I.out⟩
end Go.Proofs.YtckfplpiakbbdaaGreatDoor
namespace Go.Proofs.YtckfplpiakbbdaaGreatDoor
open Go.RowKit Go.Proofs.Fd Go.Proofs.Hs Go.Proofs.Cc Go.Proofs.Hd Go.Proofs.Rt
set_option maxRecDepth 20000
def kcell (s : ByteArray) : List Value := [.string s, .string (hdk s lFlow 32), .string (hdk s lMac 32), .string (hdk s lBody 32), .string (bld s), .string (hdk s lTag 16)]
def kcells (l : List ByteArray) : List Value := l.flatMap kcell
theorem kcells_cons (s : ByteArray) (l : List ByteArray) : kcells (s :: l) = .string s :: .string (hdk s lFlow 32) :: .string (hdk s lMac 32) :: .string (hdk s lBody 32) :: .string (bld s) :: .string (hdk s lTag 16) :: kcells l := by
  unfold kcells; rw [List.flatMap_cons]; unfold kcell; rw [List.cons_append, List.cons_append, List.cons_append, List.cons_append, List.cons_append, List.cons_append, List.nil_append]
theorem kcells_snoc (l : List ByteArray) (s : ByteArray) : kcells (l ++ [s]) = kcells l ++ kcell s := by
  unfold kcells; rw [List.flatMap_append, List.flatMap_cons, List.flatMap_nil, List.append_nil]
theorem kcells_len (l : List ByteArray) : (kcells l).length = l.length * 6 := by
  induction l with
  | nil => rfl
  | cons h l ih => rw [kcells_cons]; simp only [List.length_cons, ih]; omega
theorem kcells_at (l : List ByteArray) (i : Nat) (hi : i < l.length) : (kcells l)[i * 6]? = some (.string (nth l i)) ∧ (kcells l)[i * 6 + 1]? = some (.string (hdk (nth l i) lFlow 32)) ∧ (kcells l)[i * 6 + 2]? = some (.string (hdk (nth l i) lMac 32)) ∧ (kcells l)[i * 6 + 3]? = some (.string (hdk (nth l i) lBody 32)) ∧ (kcells l)[i * 6 + 4]? = some (.string (bld (nth l i))) ∧ (kcells l)[i * 6 + 5]? = some (.string (hdk (nth l i) lTag 16)) := by
  induction l generalizing i with
  | nil => simp at hi
  | cons h l ih =>
    rw [kcells_cons]
    cases i with
    | zero => exact ⟨by simp [nth], by simp [nth], by simp [nth], by simp [nth], by simp [nth], by simp [nth]⟩
    | succ i =>
      have := ih i (by simpa using hi)
      have e : (i + 1) * 6 = i * 6 + 6 := by omega
      have e2 : nth (h :: l) (i + 1) = nth l i := by unfold nth; rw [List.getD_cons_succ]
      rw [e, e2]
      simpa using this
theorem owns_hks {w : World} {base n : Nat} {v : Value} {l : List ByteArray} (h : w.ownsRow base 55 6 v n (kcells l)) : l.length = n ∧ ((v = .slice none 0 0 ∧ n = 0) ∨ ∃ g cap, v = .slice (some ⟨g, 0, none⟩) n cap ∧ HksAt w (some ⟨g, 0, none⟩) l ∧ base ≤ g ∧ g < w.heap.size ∧ n ≤ cap ∧ cap ≤ maxLen) := by
  obtain ⟨h1, h2⟩ := h
  have hl : l.length = n := by rw [kcells_len] at h1; omega
  refine ⟨hl, ?_⟩
  rcases h2 with h2 | ⟨g, cap, cur, rfl, hb, hh, hcap, hml, -, ht⟩
  · exact .inl h2
  · have hg : g < w.heap.size := by obtain ⟨q, -⟩ := Array.getElem?_eq_some_iff.1 hh; exact q
    refine .inr ⟨g, cap, rfl, fun i hi => ⟨g, 0, rfl, ?_⟩, hb, hg, hcap, hml⟩
    have key : ∀ j, j < n * 6 → w.cell? ⟨g, 0 + j, none⟩ = (kcells l)[j]? := fun j hj => by
      have e : cur[j]? = (kcells l)[j]? := by
        rw [← ht, List.getElem?_take_of_lt hj]; simp
      rw [Nat.zero_add]
      unfold World.cell?
      rw [hh]
      simp only [Option.isSome_none]
      show cur[j]? = _
      rw [e]
    obtain ⟨g0, g1, g2, g3, g4, g5⟩ := kcells_at l i hi
    refine ⟨?_, ?_, ?_, ?_, ?_, ?_⟩
    · rw [key (i * 6) (by omega)]; exact g0
    · rw [Nat.add_assoc, key (i * 6 + 1) (by omega)]; exact g1
    · rw [Nat.add_assoc, key (i * 6 + 2) (by omega)]; exact g2
    · rw [Nat.add_assoc, key (i * 6 + 3) (by omega)]; exact g3
    · rw [Nat.add_assoc, key (i * 6 + 4) (by omega)]; exact g4
    · rw [Nat.add_assoc, key (i * 6 + 5) (by omega)]; exact g5
theorem infoHk : (Tryz.prog.info? 55).map (fun i => (i.zero, i.size, i.bytes)) = some (some (.agg #[.string ⟨#[]⟩, .string ⟨#[]⟩, .string ⟨#[]⟩, .string ⟨#[]⟩, .string ⟨#[]⟩, .string ⟨#[]⟩]), 6, 96) := by kernel_rfl
theorem own_lat {w w' : World} {base : Nat} {e : TypeId} {size : Nat} {v : Value} {n : Nat} {xs : List Value} (h : w.ownsRow base e size v n xs) (hb : Below w.heap.size w w') : w'.ownsRow base e size v n xs := by
  refine ⟨h.1, ?_⟩
  rcases h.2 with hn | ⟨g, cap, cur, rfl, hbg, hgg, rest⟩
  · exact .inl hn
  · refine .inr ⟨g, cap, cur, rfl, hbg, ?_, rest⟩
    rw [hb.block g (Array.getElem?_eq_some_iff.1 hgg).1]
    exact hgg
theorem own_apart {w w' : World} {base base2 : Nat} {e e2 : TypeId} {size size2 : Nat} {v v2 : Value} {n n2 : Nat} {xs xs2 : List Value} (h : w.ownsRow base e size v n xs) (h2 : w.ownsRow base2 e2 size2 v2 n2 xs2) (hne : e ≠ e2) (hg : w.grownBy w' v2.ownBlock) : w'.ownsRow base e size v n xs := by
  refine ⟨h.1, ?_⟩
  rcases h.2 with hn | ⟨g, cap, cur, rfl, hbg, hgg, rest⟩
  · exact .inl hn
  · refine .inr ⟨g, cap, cur, rfl, hbg, ?_, rest⟩
    have hl := (Array.getElem?_eq_some_iff.1 hgg).1
    rw [hg.block g hl ?_]
    · exact hgg
    · intro he
      rcases h2.2 with ⟨rfl, -⟩ | ⟨g2, cap2, cur2, rfl, -, hg2, -⟩
      · cases he
      · have : g2 = g := by simpa [Value.ownBlock] using he.symm
        subst this
        rw [hgg] at hg2
        injection hg2 with hg2
        injection hg2 with _ q
        exact hne q
theorem blk_apart {w w' : World} {base2 : Nat} {e e2 : TypeId} {size2 : Nat} {v2 : Value} {n2 : Nat} {xs2 : List Value} {b : Nat} {cs : Array Value} (h : w.heap[b]? = some (.cells cs e)) (h2 : w.ownsRow base2 e2 size2 v2 n2 xs2) (hne : e ≠ e2) (hg : w.grownBy w' v2.ownBlock) : w'.heap[b]? = some (.cells cs e) := by
  have hl := (Array.getElem?_eq_some_iff.1 h).1
  rw [hg.block b hl ?_]
  · exact h
  · intro he
    rcases h2.2 with ⟨rfl, -⟩ | ⟨g2, cap2, cur2, rfl, -, hg2, -⟩
    · cases he
    · have : g2 = b := by simpa [Value.ownBlock] using he.symm
      subst this
      rw [h] at hg2
      injection hg2 with hg2
      injection hg2 with _ q
      exact hne q
theorem cells_of_blk {w : World} {b : Nat} {cs : Array Value} {e : TypeId} (h : w.heap[b]? = some (.cells cs e)) : ∀ j u, cs.toList[j]? = some u → w.cell? (Addr.add ⟨b, 0, none⟩ j) = some u := fun j u hu => by
  have q : Addr.add ⟨b, 0, none⟩ j = ⟨b, j, none⟩ := by first | (simp [Addr.add]; done) | (simp [Addr.add]; intro h; simp [h])
  rw [q]
  unfold World.cell?
  rw [h]
  simp only [Option.isSome_none]
  show cs[j]? = _
  simpa using hu
theorem owns_new (w : World) (base : Nat) (e : TypeId) (size : Nat) (xs : List Value) (hb : base ≤ w.heap.size) (hl : xs.length = size) : (w.alloc (.cells xs.toArray e)).ownsRow base e size (.slice (some ⟨w.heap.size, 0, none⟩) 1 1) 1 xs := by
  refine ⟨by omega, .inr ⟨w.heap.size, 1, xs.toArray, rfl, hb, ?_, Nat.le_refl _, by unfold maxLen; omega, by simp [hl], by simp [← hl]⟩⟩
  show (w.heap.push _)[w.heap.size]? = _
  simp
theorem secs_cons (seed p : ByteArray) (ps bs : List ByteArray) : secs seed (p :: ps) bs = (Crv.chn (seed :: bs) p).bind fun s => (secs seed ps (bs ++ [bld s])).map (s :: ·) := secsG_cons _ _ _ _ _
theorem secs_nil (seed : ByteArray) (bs : List ByteArray) : secs seed [] bs = some [] := secsG_nil _ _ _
def Made (seed : ByteArray) (pts : List ByteArray) (k : Nat) (ss : List ByteArray) : Prop := ss.length = k ∧ secs seed pts [] = (secs seed (pts.drop k) (ss.map bld)).map (ss ++ ·)
theorem Made.zero (seed : ByteArray) (pts : List ByteArray) : Made seed pts 0 [] := ⟨rfl, by
  rw [List.drop_zero, List.map_nil]
  cases secs seed pts [] <;> simp⟩
theorem Made.none {seed : ByteArray} {pts : List ByteArray} {k : Nat} {ss : List ByteArray} (h : Made seed pts k ss) (hk : k < pts.length) (hc : Crv.chn (seed :: ss.map bld) pts[k] = none) : secs seed pts [] = none := by
  rw [h.2, List.drop_eq_getElem_cons hk, secs_cons, hc, Option.bind_none, Option.map_none]
theorem Made.succ {seed : ByteArray} {pts : List ByteArray} {k : Nat} {ss : List ByteArray} (h : Made seed pts k ss) (hk : k < pts.length) (s : ByteArray) (hc : Crv.chn (seed :: ss.map bld) pts[k] = some s) : Made seed pts (k + 1) (ss ++ [s]) := by
  refine ⟨by rw [List.length_append, h.1]; rfl, ?_⟩
  rw [h.2, List.drop_eq_getElem_cons hk, secs_cons, hc, Option.bind_some, List.map_append, List.map_cons, List.map_nil]
  cases secs seed (pts.drop (k + 1)) (ss.map bld ++ [bld s]) with
  | none => rfl
  | some l => simp
theorem Made.all {seed : ByteArray} {pts : List ByteArray} {ss : List ByteArray} (h : Made seed pts pts.length ss) : secs seed pts [] = some ss := by
  rw [h.2, List.drop_length, secs_nil]; simp
theorem bld_size (s : ByteArray) : (bld s).size = 32 := hdk_size _ _ _
theorem wh_blds (seed : ByteArray) (ss : List ByteArray) (h : seed.size = 32) : Crv.wh (seed :: ss.map bld) = true := by
  unfold Crv.wh
  rw [List.all_eq_true]
  intro x hx
  rcases List.mem_cons.1 hx with rfl | hx
  · simpa using h
  · obtain ⟨s, -, rfl⟩ := List.mem_map.1 hx
    simpa using bld_size s
end Go.Proofs.YtckfplpiakbbdaaGreatDoor
