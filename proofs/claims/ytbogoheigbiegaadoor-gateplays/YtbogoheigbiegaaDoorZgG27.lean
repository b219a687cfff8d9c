/- Parts: GtW, GtP. -/
import Derived.Test.YtbogoheigbiegaaDoorZgG26
import Derived.Test.YtbogoheigbiegaaDoorZgG07
namespace Go.Proofs.Gt
open Go.Proofs.Ml Go.Proofs.Hs
theorem ad_zero (q : Int) : adE [⟨3, kk, q⟩] ⟨2, 3, 9, e0, mk (zr 32), [], []⟩ = 200 ∧ adS [⟨3, kk, q⟩] ⟨2, 3, 9, e0, mk (zr 32), [], []⟩ = [⟨3, kk, q⟩] := by
  have hm : mayB ⟨2, 3, 9, e0, mk (zr 32), [], []⟩ = true := by decide
  refine ad_other hm ?_ ?_
  · show at' [(⟨3, kk, q⟩ : Si)] 3 < 1
    rw [show at' [(⟨3, kk, q⟩ : Si)] 3 = 0 from if_pos rfl]; decide
  · have e : at' [(⟨3, kk, q⟩ : Si)] (⟨2, 3, 9, e0, mk (zr 32), [], []⟩ : Ml).u = 0 := if_pos rfl
    simp only [e, List.getElem_cons_zero]
    exact no_tag
end Go.Proofs.Gt
namespace Go.Proofs.YtbogoheigbiegaaDoor.Gat
open Go.RowKit Go.Proofs.Fd Go.Proofs.Ml Go.Proofs.Hs Go.Proofs.Gt
open Go.Proofs.YtbogoheigbiegaaDoor.Mai (mv MlAt Lists MlV SlAt enS chkE z32)
set_option maxRecDepth 20000
theorem admitP (w0 w : World) (p g : Nat) (q s : Int) (v : Value) (h2 : 1 ≤ s) (h3 : s ≤ 2147483647) (O : Ow w0 w p g [⟨3, kk, q⟩]) (V : MlV w v (pl kk 3 s)) :
    Calls Tryd.prog 14 #[.pointer (some ⟨p, 0, none⟩), v] w fun e w' => e = .returned (.int .i64 (if s ≤ q then 170 else 0)) ∧ Ow w0 w' p g [⟨3, kk, if s ≤ q then q else s⟩] ∧ Bf (fun x => x = g) w w' := by
  refine Calls.mono (admitV p g [⟨3, kk, q⟩] v (pl kk 3 s) (by show (tgM kk (plM 3 s)).size ≤ _; rw [tgM_size]; decide) w O.a V O.k) ?_
  rintro e w' ⟨rfl, ha, hb⟩
  have z := ad_one (key := kk) (u := 3) (s := s) (q := q) (by decide) (by decide) h2 h3
  rw [z.2] at ha
  rw [z.1]
  exact ⟨rfl, O.step ha hb, hb⟩
theorem admitZ (w0 w : World) (p g : Nat) (q : Int) (O : Ow w0 w p g [⟨3, kk, q⟩]) :
    Calls Tryd.prog 14 #[.pointer (some ⟨p, 0, none⟩), mv 2 3 9 ⟨#[]⟩ (mk (zr 32)) none 0 0 none 0 0] w fun e w' => e = .returned (.int .i64 200) ∧ Ow w0 w' p g [⟨3, kk, q⟩] := by
  refine Calls.mono (Admit_any p g [⟨3, kk, q⟩] 2 3 9 ⟨#[]⟩ (mk (zr 32)) none 0 0 none 0 0 [] [] (by decide) w O.a (Lists.zero w) O.k) ?_
  rintro e w' ⟨rfl, ha, hb⟩
  have z := ad_zero q
  unfold e0 at z
  rw [z.2] at ha
  rw [z.1]
  exact ⟨rfl, O.step ha hb⟩
theorem hasK (w0 w : World) (p g : Nat) (u q : Int) (O : Ow w0 w p g [⟨3, kk, q⟩]) :
    Calls Tryd.prog 19 #[.pointer (some ⟨p, 0, none⟩), .int .i64 u] w fun e w' => e = .returned (.bool (decide (u = 3))) ∧ Below w.heap.size w w' := by
  have h := Has_any p g [⟨3, kk, q⟩] u w O.a
  have e : decide (at' [(⟨3, kk, q⟩ : Si)] u < [(⟨3, kk, q⟩ : Si)].length) = decide (u = 3) := by
    by_cases z : u = 3
    · subst z
      rw [show at' [(⟨3, kk, q⟩ : Si)] 3 = 0 from if_pos rfl]; rfl
    · rw [show at' [(⟨3, kk, q⟩ : Si)] u = 1 from if_neg (fun c => z c.symm), decide_eq_false z]; rfl
  rw [e] at h
  exact h
def Five (w : World) (b : Nat) : Prop := w.cell? ⟨b, 0, none⟩ = some (.int .i64 1) ∧ w.cell? ⟨b, 1, none⟩ = some (.int .i64 1) ∧ w.cell? ⟨b, 2, none⟩ = some (.int .i64 5) ∧ w.cell? ⟨b, 3, none⟩ = some (.int .i64 4) ∧ w.cell? ⟨b, 4, none⟩ = some (.int .i64 6)
theorem Five.apart {F : Nat → Prop} {w w' : World} {b : Nat} (h : Five w b) (hb : Bf F w w') (hF : ¬ F b) : Five w' b := ⟨hb.cell h.1 hF, hb.cell h.2.1 hF, hb.cell h.2.2.1 hF, hb.cell h.2.2.2.1 hF, hb.cell h.2.2.2.2 hF⟩
theorem Five.later {w w' : World} {b : Nat} (h : Five w b) (hb : Below w.heap.size w w') : Five w' b := h.apart (F := fun _ => False) (Bf.of hb) (fun x => x)
def Wst (w0 w : World) (p g b : Nat) (q : Int) : Prop := Ow w0 w p g [⟨3, kk, q⟩] ∧ Five w b ∧ b ≠ g
set_option maxHeartbeats 4000000 in
theorem gworks_any (w : World) (K : Hid (Kh w)) :
    Calls Tryd.prog 20 #[] w fun e w' => e = .returned (.bool true) ∧ Below w.heap.size w w' := by
  have PU : Hid (∀ (s : Int) (w2 : World), 1 ≤ s → s ≤ 2147483647 → Kh w2 → Calls Tryd.prog 22 #[.string ⟨#[116, 104, 105, 114, 116, 121, 45, 116, 119, 111, 32, 98, 121, 116, 101, 115, 32, 97, 114, 101, 32, 106, 117, 115, 116, 32, 97, 32, 107, 101, 121, 46]⟩, .int .i64 s] w2 fun e w' => ∃ v, e = .returned v ∧ MlV w' v (pl kk 3 s) ∧ Below w2.heap.size w2 w') := fun s w2 h2 h3 hk => pull_any kk s kk_size h2 h3 w2 hk
  have NK : Hid (∀ (b : Nat) (w2 : World), w2.cell? ⟨b, 0, none⟩ = some (.int .i64 3) → w2.cell? ⟨b, 1, none⟩ = some (.string ⟨#[116, 104, 105, 114, 116, 121, 45, 116, 119, 111, 32, 98, 121, 116, 101, 115, 32, 97, 114, 101, 32, 106, 117, 115, 116, 32, 97, 32, 107, 101, 121, 46]⟩) → Below w.heap.size w w2 → Calls Tryd.prog 10 #[.slice (some ⟨b, 0, none⟩) 1 1] w2 fun e w' => ∃ p g, e = .returned (.tuple #[.pointer (some ⟨p, 0, none⟩), .int .i64 0]) ∧ Ow w w' p g [⟨3, kk, 0⟩]) := fun b w2 h0 h1 hb => newK 3 (by decide) (by decide) b w2 h0 h1 w hb K.out
  go_enter Tryd.func20, Tryd.ntmps20
  go_wp2_with fail
  refine Calls.mono (NK.out _ _ (by simp [go_sem]) (by simp [go_sem]) ((Below.refl _ _).alloc (Nat.le_refl _) _)) ?_
  rintro e w1 ⟨p, g, rfl, O1⟩
  have S0 : Hid (Wst w (w1.alloc (.cells #[.int .i64 1, .int .i64 1, .int .i64 5, .int .i64 4, .int .i64 6] 3)) p g w1.heap.size 0) :=
    ⟨O1.later ((Below.refl _ _).alloc (Nat.le_refl _) _), ⟨by simp [go_sem], by simp [go_sem], by simp [go_sem], by simp [go_sem], by simp [go_sem]⟩, by have := World.block_lt_of_cell? _ _ (O1.a.s 0 (by simp)).1; simp only at this; omega⟩
  obtain ⟨b, hb⟩ : ∃ b, w1.heap.size = b := ⟨_, rfl⟩
  rw [hb] at S0
  clear NK O1
  go_wp2
  go_loopw [20] (fun i wr => ∃ q : Int, ((i = .int .i64 0 ∧ q = 0) ∨ (i = .int .i64 1 ∧ q = 1) ∨ (i = .int .i64 2 ∧ q = 1) ∨ (i = .int .i64 3 ∧ q = 5) ∨ (i = .int .i64 4 ∧ q = 5) ∨ (i = .int .i64 5 ∧ q = 6)) ∧ Hid (Wst w wr p g b q)) (fun i _ => 5 - (intOf i).toNat)
  case atStart => exact ⟨0, .inl ⟨rfl, rfl⟩, S0.out⟩
  case round =>
    obtain ⟨q, hq, I⟩ := hrel
    clear S0 hb
    rcases hq with ⟨rfl, rfl⟩ | ⟨rfl, rfl⟩ | ⟨rfl, rfl⟩ | ⟨rfl, rfl⟩ | ⟨rfl, rfl⟩ | ⟨rfl, rfl⟩
    · have c := I.out.2.1.1
      have AD : Hid (∀ (v : Value) (w2 : World), Ow w w2 p g [⟨3, kk, 0⟩] → MlV w2 v (pl kk 3 1) → Calls Tryd.prog 14 #[.pointer (some ⟨p, 0, none⟩), v] w2 fun e w' => e = .returned (.int .i64 0) ∧ Ow w w' p g [⟨3, kk, 1⟩] ∧ Bf (fun x => x = g) w2 w') := fun v w2 h1 h2 => admitP w w2 p g 0 1 v (by decide) (by decide) h1 h2
      go_wp2_with fail
      refine Calls.mono (PU.out 1 _ (by decide) (by decide) I.out.1.k) ?_
      rintro e w2 ⟨v, rfl, hv, hb⟩
      have I2 : Hid (Wst w w2 p g b 0) := ⟨I.out.1.later hb, I.out.2.1.later hb, I.out.2.2⟩
      have HV : Hid (MlV w2 v (pl kk 3 1)) := hv
      clear hv hb c
      go_wp2_with fail
      refine Calls.mono (AD.out v _ I2.out.1 HV.out) ?_
      rintro e w3 ⟨rfl, h3, h4⟩
      have I3 : Hid (Wst w w3 p g b 1) := ⟨h3, I2.out.2.1.apart h4 I2.out.2.2, I2.out.2.2⟩
      clear h3 h4 I2 HV AD I PU
      go_wp2
      go_roundw
      case rel => exact ⟨1, .inr (.inl ⟨rfl, rfl⟩), I3.out⟩
      case measure => simp [intOf]
    · have c := I.out.2.1.2.1
      have AD : Hid (∀ (v : Value) (w2 : World), Ow w w2 p g [⟨3, kk, 1⟩] → MlV w2 v (pl kk 3 1) → Calls Tryd.prog 14 #[.pointer (some ⟨p, 0, none⟩), v] w2 fun e w' => e = .returned (.int .i64 170) ∧ Ow w w' p g [⟨3, kk, 1⟩] ∧ Bf (fun x => x = g) w2 w') := fun v w2 h1 h2 => admitP w w2 p g 1 1 v (by decide) (by decide) h1 h2
      go_wp2_with fail
      refine Calls.mono (PU.out 1 _ (by decide) (by decide) I.out.1.k) ?_
      rintro e w2 ⟨v, rfl, hv, hb⟩
      have I2 : Hid (Wst w w2 p g b 1) := ⟨I.out.1.later hb, I.out.2.1.later hb, I.out.2.2⟩
      have HV : Hid (MlV w2 v (pl kk 3 1)) := hv
      clear hv hb c
      go_wp2_with fail
      refine Calls.mono (AD.out v _ I2.out.1 HV.out) ?_
      rintro e w3 ⟨rfl, h3, h4⟩
      have I3 : Hid (Wst w w3 p g b 1) := ⟨h3, I2.out.2.1.apart h4 I2.out.2.2, I2.out.2.2⟩
      clear h3 h4 I2 HV AD I PU
      go_wp2
      go_roundw
      case rel => exact ⟨1, .inr (.inr (.inl ⟨rfl, rfl⟩)), I3.out⟩
      case measure => simp [intOf]
    · have c := I.out.2.1.2.2.1
      have AD : Hid (∀ (v : Value) (w2 : World), Ow w w2 p g [⟨3, kk, 1⟩] → MlV w2 v (pl kk 3 5) → Calls Tryd.prog 14 #[.pointer (some ⟨p, 0, none⟩), v] w2 fun e w' => e = .returned (.int .i64 0) ∧ Ow w w' p g [⟨3, kk, 5⟩] ∧ Bf (fun x => x = g) w2 w') := fun v w2 h1 h2 => admitP w w2 p g 1 5 v (by decide) (by decide) h1 h2
      go_wp2_with fail
      refine Calls.mono (PU.out 5 _ (by decide) (by decide) I.out.1.k) ?_
      rintro e w2 ⟨v, rfl, hv, hb⟩
      have I2 : Hid (Wst w w2 p g b 1) := ⟨I.out.1.later hb, I.out.2.1.later hb, I.out.2.2⟩
      have HV : Hid (MlV w2 v (pl kk 3 5)) := hv
      clear hv hb c
      go_wp2_with fail
      refine Calls.mono (AD.out v _ I2.out.1 HV.out) ?_
      rintro e w3 ⟨rfl, h3, h4⟩
      have I3 : Hid (Wst w w3 p g b 5) := ⟨h3, I2.out.2.1.apart h4 I2.out.2.2, I2.out.2.2⟩
      clear h3 h4 I2 HV AD I PU
      go_wp2
      go_roundw
      case rel => exact ⟨5, .inr (.inr (.inr (.inl ⟨rfl, rfl⟩))), I3.out⟩
      case measure => simp [intOf]
    · have c := I.out.2.1.2.2.2.1
      have AD : Hid (∀ (v : Value) (w2 : World), Ow w w2 p g [⟨3, kk, 5⟩] → MlV w2 v (pl kk 3 4) → Calls Tryd.prog 14 #[.pointer (some ⟨p, 0, none⟩), v] w2 fun e w' => e = .returned (.int .i64 170) ∧ Ow w w' p g [⟨3, kk, 5⟩] ∧ Bf (fun x => x = g) w2 w') := fun v w2 h1 h2 => admitP w w2 p g 5 4 v (by decide) (by decide) h1 h2
      go_wp2_with fail
      refine Calls.mono (PU.out 4 _ (by decide) (by decide) I.out.1.k) ?_
      rintro e w2 ⟨v, rfl, hv, hb⟩
      have I2 : Hid (Wst w w2 p g b 5) := ⟨I.out.1.later hb, I.out.2.1.later hb, I.out.2.2⟩
      have HV : Hid (MlV w2 v (pl kk 3 4)) := hv
      clear hv hb c
      go_wp2_with fail
      refine Calls.mono (AD.out v _ I2.out.1 HV.out) ?_
      rintro e w3 ⟨rfl, h3, h4⟩
      have I3 : Hid (Wst w w3 p g b 5) := ⟨h3, I2.out.2.1.apart h4 I2.out.2.2, I2.out.2.2⟩
      clear h3 h4 I2 HV AD I PU
      go_wp2
      go_roundw
      case rel => exact ⟨5, .inr (.inr (.inr (.inr (.inl ⟨rfl, rfl⟩)))), I3.out⟩
      case measure => simp [intOf]
    · have c := I.out.2.1.2.2.2.2
      have AD : Hid (∀ (v : Value) (w2 : World), Ow w w2 p g [⟨3, kk, 5⟩] → MlV w2 v (pl kk 3 6) → Calls Tryd.prog 14 #[.pointer (some ⟨p, 0, none⟩), v] w2 fun e w' => e = .returned (.int .i64 0) ∧ Ow w w' p g [⟨3, kk, 6⟩] ∧ Bf (fun x => x = g) w2 w') := fun v w2 h1 h2 => admitP w w2 p g 5 6 v (by decide) (by decide) h1 h2
      go_wp2_with fail
      refine Calls.mono (PU.out 6 _ (by decide) (by decide) I.out.1.k) ?_
      rintro e w2 ⟨v, rfl, hv, hb⟩
      have I2 : Hid (Wst w w2 p g b 5) := ⟨I.out.1.later hb, I.out.2.1.later hb, I.out.2.2⟩
      have HV : Hid (MlV w2 v (pl kk 3 6)) := hv
      clear hv hb c
      go_wp2_with fail
      refine Calls.mono (AD.out v _ I2.out.1 HV.out) ?_
      rintro e w3 ⟨rfl, h3, h4⟩
      have I3 : Hid (Wst w w3 p g b 6) := ⟨h3, I2.out.2.1.apart h4 I2.out.2.2, I2.out.2.2⟩
      clear h3 h4 I2 HV AD I PU
      go_wp2
      go_roundw
      case rel => exact ⟨6, .inr (.inr (.inr (.inr (.inr ⟨rfl, rfl⟩)))), I3.out⟩
      case measure => simp [intOf]
    · have O0 : Hid (Ow w wr p g [⟨3, kk, 6⟩]) := I.out.1
      have HS : Hid (∀ (u : Int) (w2 : World), Ow w w2 p g [⟨3, kk, 6⟩] → Calls Tryd.prog 19 #[.pointer (some ⟨p, 0, none⟩), .int .i64 u] w2 fun e w' => e = .returned (.bool (decide (u = 3))) ∧ Below w2.heap.size w2 w') := fun u w2 h => hasK w w2 p g u 6 h
      clear I PU
      go_wp2_with fail
      refine Calls.mono (HS.out 3 _ O0.out) ?_
      rintro e w2 ⟨rfl, hb⟩
      have O2 : Hid (Ow w w2 p g [⟨3, kk, 6⟩]) := O0.out.later hb
      clear hb O0
      rw [show decide ((3 : Int) = 3) = true from rfl]
      go_wp2_with fail
      refine Calls.mono (HS.out 4 _ O2.out) ?_
      rintro e w3 ⟨rfl, hb⟩
      have O3 : Hid (Ow w w3 p g [⟨3, kk, 6⟩]) := O2.out.later hb
      clear hb O2 HS
      rw [show decide ((4 : Int) = 3) = false from rfl]
      obtain ⟨W, CM, BW, bW, -⟩ := Mai.make_n 32 (by decide) w3
      obtain ⟨Z, hZ⟩ : ∃ Z, mk (zr 32) = Z := ⟨_, rfl⟩
      have CV := BW.string (cap := 32) (n := 32) (by simp)
      rw [show (⟨(List.replicate 32 (0 : UInt8)).toArray⟩ : ByteArray) = Z from hZ] at CV
      have CM : (Instr.makeSlice 60 (.int .i64 32) (.int .i64 32)).run Tryd.prog w3 = .ok (.slice (some ⟨w3.heap.size, 0, none⟩) 32 32) W := CM
      have AZ : Hid (∀ (w2 : World), Ow w w2 p g [⟨3, kk, 6⟩] → Calls Tryd.prog 14 #[.pointer (some ⟨p, 0, none⟩), mv 2 3 9 ⟨#[]⟩ Z none 0 0 none 0 0] w2 fun e w' => e = .returned (.int .i64 200) ∧ Ow w w' p g [⟨3, kk, 6⟩]) := fun w2 h => by
        rw [← hZ]; exact admitZ w w2 p g 6 h
      have O4 : Hid (Ow w W p g [⟨3, kk, 6⟩]) := O3.out.later bW
      unfold mv at AZ
      clear hZ bW O3
      go_wp2_with fail
      refine Calls.mono (AZ.out _ O4.out) ?_
      rintro e w5 ⟨rfl, h5⟩
      have O5 : Hid (Ow w w5 p g [⟨3, kk, 6⟩]) := h5
      clear h5 O4 AZ CM CV
      go_wp2
      go_ret
      exact ⟨rfl, O5.out.b⟩
end Go.Proofs.YtbogoheigbiegaaDoor.Gat
namespace Go.Proofs.YtbogoheigbiegaaDoor.Gat
open Go.RowKit Go.Proofs.Fd Go.Proofs.Ml Go.Proofs.Hs Go.Proofs.Gt
open Go.Proofs.YtbogoheigbiegaaDoor.Mai (mv MlAt Lists MlV SlAt enS chkE z32)
set_option maxRecDepth 20000
theorem mod_of (x : Int) (N : Nat) (h0 : 0 < N) (h1 : N ≤ 1000000) : ∃ (r : Nat) (s : Int), (IntKind.u64.wrap x).tmod (N : Int) = (r : Int) ∧ (1 ≤ s ∧ s ≤ (N : Int)) ∧ IntKind.u64.wrap (r : Int) = (r : Int) ∧ IntKind.i64.wrap (r : Int) = (r : Int) ∧ IntKind.i64.wrap (1 + (r : Int)) = s ∧ wrap64 (r : Int) = (r : Int) ∧ wrap64 (1 + (r : Int)) = s := by
  have h : IntKind.u64.wrap x = x % 18446744073709551616 := by rw [IntKind.wrap_u64]
  have a := Int.emod_nonneg x (show (18446744073709551616 : Int) ≠ 0 by decide)
  have b := Int.emod_nonneg (x % 18446744073709551616) (show (N : Int) ≠ 0 by omega)
  have c := Int.emod_lt_of_pos (x % 18446744073709551616) (show (0 : Int) < (N : Int) by omega)
  rw [h, Int.tmod_eq_emod_of_nonneg a]
  obtain ⟨z, hz⟩ : ∃ z, x % 18446744073709551616 % (N : Int) = z := ⟨_, rfl⟩
  rw [hz] at b c ⊢
  refine ⟨z.toNat, 1 + (z.toNat : Int), by omega, by omega, ?_, ?_, ?_, ?_, ?_⟩
  · rw [IntKind.wrap_u64]; omega
  · rw [IntKind.wrap_i64]; omega
  · rw [IntKind.wrap_i64]; omega
  · unfold wrap64; omega
  · unfold wrap64; omega
theorem lastK (w0 w : World) (p g : Nat) (q : Int) (O : Ow w0 w p g [⟨3, kk, q⟩]) :
    Calls Tryd.prog 17 #[.pointer (some ⟨p, 0, none⟩), .int .i64 3] w fun e w' => e = .returned (.tuple #[.int .i64 q, .int .i64 0]) ∧ Below w.heap.size w w' := by
  have h := Last_any p g [⟨3, kk, q⟩] 3 w O.a
  have a : at' [(⟨3, kk, q⟩ : Si)] 3 = 0 := if_pos rfl
  have e1 : laV [(⟨3, kk, q⟩ : Si)] 3 = q := by
    unfold laV
    rw [dif_pos (by rw [a]; exact Nat.zero_lt_one)]
    simp only [a, List.getElem_cons_zero]
  have e2 : laE [(⟨3, kk, q⟩ : Si)] 3 = 0 := by
    unfold laE
    rw [if_pos (by rw [a]; exact Nat.zero_lt_one)]
  rw [e1, e2] at h
  exact h
set_option maxHeartbeats 4000000 in
theorem GateOnce_walk (a : Option Addr) (l : List Int) (n c : Nat) (hn : Hid (l.length = n)) (w : World) (K : Hid (Kh w)) (hc : Hid (IntAt w a l)) :
    Calls Tryd.prog 5 #[.slice a n c] w fun e w' => e = .returned (.bool true) ∧ Below w.heap.size w w' := by
  have PU : Hid (∀ (s : Int) (w2 : World), 1 ≤ s → s ≤ 2147483647 → Kh w2 → Calls Tryd.prog 22 #[.string ⟨#[116, 104, 105, 114, 116, 121, 45, 116, 119, 111, 32, 98, 121, 116, 101, 115, 32, 97, 114, 101, 32, 106, 117, 115, 116, 32, 97, 32, 107, 101, 121, 46]⟩, .int .i64 s] w2 fun e w' => ∃ v, e = .returned v ∧ MlV w' v (pl kk 3 s) ∧ Below w2.heap.size w2 w') := fun s w2 h2 h3 hk => pull_any kk s kk_size h2 h3 w2 hk
  have NK : Hid (∀ (b : Nat) (w2 : World), w2.cell? ⟨b, 0, none⟩ = some (.int .i64 3) → w2.cell? ⟨b, 1, none⟩ = some (.string ⟨#[116, 104, 105, 114, 116, 121, 45, 116, 119, 111, 32, 98, 121, 116, 101, 115, 32, 97, 114, 101, 32, 106, 117, 115, 116, 32, 97, 32, 107, 101, 121, 46]⟩) → Below w.heap.size w w2 → Calls Tryd.prog 10 #[.slice (some ⟨b, 0, none⟩) 1 1] w2 fun e w' => ∃ p g, e = .returned (.tuple #[.pointer (some ⟨p, 0, none⟩), .int .i64 0]) ∧ Ow w w' p g [⟨3, kk, 0⟩]) := fun b w2 h0 h1 hb => newK 3 (by decide) (by decide) b w2 h0 h1 w hb K.out
  have WK : Hid (∀ w2, Kh w2 → Calls Tryd.prog 20 #[] w2 fun e w' => e = .returned (.bool true) ∧ Below w2.heap.size w2 w') := fun w2 h => gworks_any w2 h
  go_enter Tryd.func5, Tryd.ntmps5
  go_wp2_with fail
  refine Calls.mono (NK.out _ _ (by simp [go_sem]) (by simp [go_sem]) ((Below.refl _ _).alloc (Nat.le_refl _) _)) ?_
  rintro e w1 ⟨p, g, rfl, h1⟩
  have O1 : Hid (Ow w w1 p g [⟨3, kk, 0⟩]) := h1
  clear h1 NK
  go_wp2_with fail
  refine Calls.mono (WK.out _ O1.out.k) ?_
  rintro e w2 ⟨rfl, hb⟩
  have O2 : Hid (Ow w w2 p g [⟨3, kk, 0⟩]) := O1.out.later hb
  clear hb WK O1
  go_wp2
  go_loopw [5, 6] (fun la i wr => ∃ (k : Nat) (q : Int), k ≤ n ∧ i = .int .i64 (k : Int) ∧ la = .int .i64 q ∧ Hid (0 ≤ q ∧ q ≤ 1000 ∧ Ow w wr p g [⟨3, kk, q⟩])) (fun _ i _ => n - (intOf i).toNat)
  case atStart => exact ⟨0, 0, Nat.zero_le _, rfl, rfl, by decide, by decide, O2.out⟩
  case round =>
    obtain ⟨k, q, hk, rfl, rfl, I⟩ := hrel
    clear O2
    by_cases hlt : k < n
    · have g1 : (k : Int) < (n : Int) := by omega
      by_cases h60 : k < 60
      · have g2 : (k : Int) < 60 := by omega
        have hk' : k < l.length := by rw [hn.out]; exact hlt
        obtain ⟨b, o, rfl, c0⟩ := hc.out.later I.out.2.2.b k hk'
        obtain ⟨r, s, hr, hs, z1, z2, z3, z4, z5⟩ := mod_of l[k] 1000 (by omega) (by omega)
        have hr' : (IntKind.u64.wrap l[k]).tmod 1000 = (r : Int) := hr
        have S1 : Hid (1 ≤ s ∧ s ≤ 1000) := hs
        generalize l[k] = x at c0 hr'
        clear hr hs hk'
        go_wp2_with fail
        refine Calls.mono (PU.out s _ S1.out.1 (by have := S1.out.2; omega) I.out.2.2.k) ?_
        rintro e w3 ⟨v, rfl, hv, hb⟩
        have I3 : Hid (0 ≤ q ∧ q ≤ 1000 ∧ Ow w w3 p g [⟨3, kk, q⟩]) := ⟨I.out.1, I.out.2.1, I.out.2.2.later hb⟩
        have HV : Hid (MlV w3 v (pl kk 3 s)) := hv
        have AD : Hid _ := admitP w w3 p g q s v S1.out.1 (by have := S1.out.2; omega) I3.out.2.2 HV.out
        clear hv hb c0 I HV hr' z1 z2 z3 z4 z5
        by_cases hq : s ≤ q
        · rw [if_pos hq, if_pos hq] at AD
          have m1 : max q s = q := Int.max_eq_left hq
          have m2 : ¬ q < s := by omega
          clear hq
          go_wp2_with fail
          refine Calls.mono AD.out ?_
          rintro e w4 ⟨rfl, h4, -⟩
          have I4 : Hid (0 ≤ q ∧ q ≤ 1000 ∧ Ow w w4 p g [⟨3, kk, q⟩]) := ⟨I3.out.1, I3.out.2.1, h4⟩
          clear h4 AD I3
          have LK : Hid _ := lastK w w4 p g q I4.out.2.2
          go_wp2_with fail
          refine Calls.mono LK.out ?_
          rintro e w5 ⟨rfl, hb⟩
          have I5 : Hid (0 ≤ q ∧ q ≤ 1000 ∧ Ow w w5 p g [⟨3, kk, q⟩]) := ⟨I4.out.1, I4.out.2.1, I4.out.2.2.later hb⟩
          clear hb LK I4
          go_wp2
          go_roundw
          case rel => exact ⟨k + 1, q, by omega, by go_num, rfl, I5.out⟩
          case measure => simp [intOf]; omega
        · rw [if_neg hq, if_neg hq] at AD
          have m1 : max q s = s := Int.max_eq_right (by omega)
          have m2 : q < s := by omega
          clear hq
          go_wp2_with fail
          refine Calls.mono AD.out ?_
          rintro e w4 ⟨rfl, h4, -⟩
          have I4 : Hid (0 ≤ s ∧ s ≤ 1000 ∧ Ow w w4 p g [⟨3, kk, s⟩]) := ⟨by have := S1.out.1; omega, S1.out.2, h4⟩
          clear h4 AD I3
          have LK : Hid _ := lastK w w4 p g s I4.out.2.2
          go_wp2_with fail
          refine Calls.mono LK.out ?_
          rintro e w5 ⟨rfl, hb⟩
          have I5 : Hid (0 ≤ s ∧ s ≤ 1000 ∧ Ow w w5 p g [⟨3, kk, s⟩]) := ⟨I4.out.1, I4.out.2.1, I4.out.2.2.later hb⟩
          clear hb LK I4
          go_wp2
          go_roundw
          case rel => exact ⟨k + 1, s, by omega, by go_num, rfl, I5.out⟩
          case measure => simp [intOf]; omega
      · have g2 : ¬ (k : Int) < 60 := by omega
        go_wp2
        go_ret
        exact ⟨rfl, I.out.2.2.b⟩
    · have g1 : ¬ (k : Int) < (n : Int) := by omega
      go_wp2
      go_ret
      exact ⟨rfl, I.out.2.2.b⟩
end Go.Proofs.YtbogoheigbiegaaDoor.Gat
