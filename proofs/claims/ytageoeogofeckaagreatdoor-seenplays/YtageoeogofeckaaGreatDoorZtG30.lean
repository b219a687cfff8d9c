/- Parts: SzC, SzD, SzE, SyA. -/
import Derived.Test.YtageoeogofeckaaGreatDoorZtG29
namespace Go.Proofs.YtageoeogofeckaaGreatDoor
open Go.RowKit Go.Proofs.Fd Go.Proofs.Dk Go.Proofs.Lg
set_option maxRecDepth 20000
def TakeC : Prop := ∀ (b q most : Nat) (va vh : Value) (y : Ey) (r : Bs) (W : World), Gd y → r.length ≤ 2000 → Es W b q y.1 most va vh y.2.1 y.2.2 →
  Calls Tryz.prog 33 #[.pointer (some ⟨b, 1, none⟩), .string (st r)] W fun e w' => e = .returned (.bool (tkE y r).isSome) ∧ ∃ va' vh', Es w' b q ((tkE y r).getD y).1 most va' vh' ((tkE y r).getD y).2.1 ((tkE y r).getD y).2.2 ∧ Bf (EFt b va vh) W w' ∧ Nx W (EFt b va vh) (EFt b va' vh')
structure Pz (w wr : World) (p : Nat) (F : Nat → Prop) (s : St) (q : Nat) (v : Value) (x : Lo) (b most : Nat) (va vh : Value) (y : Ey) : Prop where
  lz : Lz w wr p F s q v x
  es : Es wr b q y.1 most va vh y.2.1 y.2.2
  ap : ∀ z, EFt b va vh z → ¬ FH F q v z ∧ w.heap.size ≤ z
def FP (F : Nat → Prop) (q : Nat) (v : Value) (b : Nat) (va vh : Value) (z : Nat) : Prop := FH F q v z ∨ EFt b va vh z
def PzP (w w0 : World) (F0 : Nat → Prop) (p q b most : Nat) (s : St) (x : Lo) (y : Ey) (w' : World) : Prop := ∃ F v va vh, Pz w w' p F s q v x b most va vh y ∧ Nx w0 F0 (FP F q v b va vh) ∧ Bf F0 w0 w'
section
variable {w w0 : World} {F0 : Nat → Prop} {p q b most : Nat} {s : St} {x : Lo} {y : Ey} {w1 : World}
theorem PzP.later (k : PzP w w0 F0 p q b most s x y w1) {w2 : World} (hb : Below w1.heap.size w1 w2) : PzP w w0 F0 p q b most s x y w2 := by
  obtain ⟨F, v, va, vh, z, n, f⟩ := k
  exact ⟨F, v, va, vh, ⟨z.lz.later hb, z.es.later hb, z.ap⟩, n, f.later hb⟩
theorem Pz.log {F : Nat → Prop} {v va vh : Value} (k : Pz w w1 p F s q v x b most va vh y) {w2 : World} {s' : St} {x' : Lo} (z : LzP w w1 p F q v s' x' w2) (hn : Nx w0 F0 (FP F q v b va vh)) (hf : Bf F0 w0 w1) : PzP w w0 F0 p q b most s' x' y w2 := by
  obtain ⟨F', v', r, n1, f⟩ := z
  have nq := n1.fh
  have hs := hf.size
  refine ⟨F', v', va, vh, ⟨r, k.es.bf f (fun g hg => (k.ap g hg).1), fun g hg => ⟨nq.apart (k.ap g hg).1 (k.es.lt hg), (k.ap g hg).2⟩⟩, fun g hg => ?_, hf.trans hn (f.wide fun g e => .inl e)⟩
  rcases hg with e | e
  · rcases nq g e with c | c
    · exact hn g (.inl c)
    · exact .inr (by omega)
  · exact hn g (.inr e)
theorem Pz.set {F : Nat → Prop} {v va vh : Value} (k : Pz w w1 p F s q v x b most va vh y) {w2 : World} {y' : Ey} {va' vh' : Value} (r : Es w2 b q y'.1 most va' vh' y'.2.1 y'.2.2) (f : Bf (EFt b va vh) w1 w2) (n : Nx w1 (EFt b va vh) (EFt b va' vh')) (hn : Nx w0 F0 (FP F q v b va vh)) (hf : Bf F0 w0 w1) : PzP w w0 F0 p q b most s x y' w2 := by
  have hs := hf.size
  have hw := k.lz.hd_.dl.below.size
  refine ⟨F, v, va', vh', ⟨k.lz.other f (fun g hg c => (k.ap g c).1 hg) (fun g c => (k.ap g c).2), r, fun g hg => ?_⟩, fun g hg => ?_, hf.trans hn (f.wide fun g e => .inr e)⟩
  · rcases n g hg with c | c
    · exact k.ap g c
    · exact ⟨fun e => by have := (k.lz.fh e).1; omega, by omega⟩
  · rcases hg with e | e
    · exact hn g (.inl e)
    · rcases n g e with c | c
      · exact hn g (.inr c)
      · exact .inr (by omega)
end
def wry (s : St) (x : Lo) (y : Ey) (r : Bs) : Ey := if (wrp s x (sht y.1 y.2.1 y.2.2) r).1.1 = 0 then (tkE y r).getD y else y
set_option maxHeartbeats 4000000 in
theorem pzwrite_any (TC : TakeC) (w w0 : World) (F0 : Nat → Prop) (p q b most : Nat) (s : St) (x : Lo) (y : Ey) (r : Bs) (hr : r.length ≤ 2000) (hy : Gd y) (hl : s.l.length + 6000 ≤ 1000000) (hk : Hid (Kh w)) (w1 : World) (k : Hid (PzP w w0 F0 p q b most s x y w1)) :
    Calls Tryz.prog 35 #[.pointer (some ⟨b, 0, none⟩), .string (st r)] w1 fun e w' => e = .returned (.int .i64 (wrp s x (sht y.1 y.2.1 y.2.2) r).1.1) ∧ PzP w w0 F0 p q b most (wrp s x (sht y.1 y.2.1 y.2.2) r).1.2 (wrp s x (sht y.1 y.2.1 y.2.2) r).2 (wry s x y r) w' := by
  have hyn := hy.n
  have hye := hy.e
  have K0 : Hid (∀ W s x y, PzP w w0 F0 p q b most s x y W → W.cell? ⟨b, 0, none⟩ = some (.pointer (some ⟨q, 0, none⟩))) := fun W s x y ⟨F, v, va, vh, z, _, _⟩ => z.es.bk.c 0 _ rfl
  have AP : Hid (∀ W s x, s.l.length + 100 ≤ 1000000 → PzP w w0 F0 p q b most s x y W → Calls Tryz.prog 42 #[.pointer (some ⟨q, 0, none⟩), .string (st r)] W fun e w' => e = .returned (.int .i64 (app s x r).1.1) ∧ PzP w w0 F0 p q b most (app s x r).1.2 (app s x r).2 y w') := fun W s x hl ⟨F, v, va, vh, z, n, f⟩ =>
    (lzappend_any w W p F s q v x (st r) hl hk.out z.lz).mono fun _ _ ⟨e1, e2⟩ => ⟨e1, z.log e2 n f⟩
  have SY : Hid (∀ W s x, s.l.length ≤ 1000000 → PzP w w0 F0 p q b most s x y W → Calls Tryz.prog 44 #[.pointer (some ⟨q, 0, none⟩)] W fun e w' => e = .returned (.int .i64 (syE s)) ∧ PzP w w0 F0 p q b most (syS s) x y w') := fun W s x hl ⟨F, v, va, vh, z, n, f⟩ =>
    (lzsync_any w W p F s q v x hl z.lz).mono fun _ _ ⟨e1, e2⟩ => ⟨e1, z.log e2 n f⟩
  have TK : Hid (∀ W s x, PzP w w0 F0 p q b most s x y W → Calls Tryz.prog 33 #[.pointer (some ⟨b, 1, none⟩), .string (st r)] W fun e w' => ∃ z : Bool, e = .returned (.bool z) ∧ PzP w w0 F0 p q b most s x ((tkE y r).getD y) w') := fun W s x ⟨F, v, va, vh, z, n, f⟩ =>
    (TC b q most va vh y r W hy hr z.es).mono fun _ _ ⟨e1, va', vh', e2, e3, e4⟩ => ⟨_, e1, z.set e2 e3 e4 n f⟩
  have hshl : (sht y.1 y.2.1 y.2.2).length ≤ 100000 := by
    unfold sht
    by_cases e : y.2.1 = []
    · rw [if_pos e]; simp; omega
    · rw [if_neg e]; simp; omega
  have SH : Hid (∀ W, PzP w w0 F0 p q b most s x y W → Calls Tryz.prog 95 #[.pointer (some ⟨b, 1, none⟩)] W fun e w' => ∃ a c, e = .returned (.slice a (sht y.1 y.2.1 y.2.2).length c) ∧ w'.cell? ⟨b, 0, none⟩ = some (.pointer (some ⟨q, 0, none⟩)) ∧ Hid (TxAt w' a (sht y.1 y.2.1 y.2.2) ∧ ∀ z, a = some z → W.heap.size ≤ z.block) ∧ Below W.heap.size W w') := fun W ⟨F, v, va, vh, z, n, f⟩ =>
    (eshort_any b q y.1 most va vh y.2.1 y.2.2 (by omega) (by omega) (by omega) hy.z (fun t ht => by have := hy.t t ht; omega) W z.es).mono fun _ w' ⟨a, c, e1, e2, e3, e4⟩ => ⟨a, c, e1, (z.es.later e3).bk.c 0 _ rfl, ⟨e2, e4⟩, e3⟩
  have CP : Hid (∀ W W2 a c, PzP w w0 F0 p q b most s x y W → Below W.heap.size W W2 → TxAt W2 a (sht y.1 y.2.1 y.2.2) → (∀ z, a = some z → W.heap.size ≤ z.block) → Calls Tryz.prog 94 #[.pointer (some ⟨q, 0, none⟩), .slice a (sht y.1 y.2.1 y.2.2).length c] W2 fun e w' => e = .returned (.int .i64 (cmp s x (sht y.1 y.2.1 y.2.2)).1.1) ∧ w'.cell? ⟨b, 0, none⟩ = some (.pointer (some ⟨q, 0, none⟩)) ∧ Hid (PzP w w0 F0 p q b most (cmp s x (sht y.1 y.2.1 y.2.2)).1.2 (cmp s x (sht y.1 y.2.1 y.2.2)).2 y w')) := fun W W2 a c ⟨F, v, va, vh, z, n, f⟩ hb tx hn => by
    have z2 : Pz w W2 p F s q v x b most va vh y := ⟨z.lz.later hb, z.es.later hb, z.ap⟩
    refine (lzcompact_any w W2 p F s q v x a _ c (sht y.1 y.2.1 y.2.2) rfl hshl (by omega) hk.out z2.lz tx (fun g e _ cc => ?_)).mono ?_
    · have := hn g e
      have := z.lz.hd_.dl.at_.lt cc
      omega
    · rintro e w' ⟨e1, e2⟩
      have zz := z2.log (w0 := w0) (F0 := F0) e2 n (f.later hb)
      exact ⟨e1, by obtain ⟨F', v', va', vh', g, _, _⟩ := zz; exact g.es.bk.c 0 _ rfl, zz⟩
  have hal := app_len s x r
  have hcl := cmp_len s x (sht y.1 y.2.1 y.2.2)
  have hn2 : s.n ≤ 1024 := by obtain ⟨F, v, va, vh, z, -, -⟩ := k.out; exact z.lz.n2
  have hac := app_len (cmp s x (sht y.1 y.2.1 y.2.2)).1.2 (cmp s x (sht y.1 y.2.1 y.2.2)).2 r
  have hwl : (wrA s x (sht y.1 y.2.1 y.2.2) r).1.2.l.length ≤ 1000000 := by
    unfold wrA
    by_cases e1 : (app s x r).1.1 = 151
    · rw [if_pos e1]
      by_cases e2 : (cmp s x (sht y.1 y.2.1 y.2.2)).1.1 = 0
      · rw [if_pos e2]; omega
      · rw [if_neg e2]; omega
    · rw [if_neg e1]; omega
  have hcl2 : (cmp s x (sht y.1 y.2.1 y.2.2)).1.2.l.length + 100 ≤ 1000000 := by omega
  have A0 : Hid _ := AP.out w1 s x (by omega) k.out
  have EWP : Hid (wrp s x (sht y.1 y.2.1 y.2.2) r = if (wrA s x (sht y.1 y.2.1 y.2.2) r).1.1 ≠ 0 then wrA s x (sht y.1 y.2.1 y.2.2) r else ((syE (wrA s x (sht y.1 y.2.1 y.2.2) r).1.2, syS (wrA s x (sht y.1 y.2.1 y.2.2) r).1.2), (wrA s x (sht y.1 y.2.1 y.2.2) r).2)) := rfl
  have EWY : Hid (wry s x y r = if (wrp s x (sht y.1 y.2.1 y.2.2) r).1.1 = 0 then (tkE y r).getD y else y) := rfl
  have ASH : Hid (∀ W, (app s x r).1.1 = 151 → PzP w w0 F0 p q b most s x y W → Calls Tryz.prog 61 #[.pointer (some ⟨b, 0, none⟩), .string (st r)] W fun e w' => e = .returned (.int .i64 (wrA s x (sht y.1 y.2.1 y.2.2) r).1.1) ∧ PzP w w0 F0 p q b most (wrA s x (sht y.1 y.2.1 y.2.2) r).1.2 (wrA s x (sht y.1 y.2.1 y.2.2) r).2 y w') := fun W e151 kW => by
    have EW2 : wrA s x (sht y.1 y.2.1 y.2.2) r = (if (cmp s x (sht y.1 y.2.1 y.2.2)).1.1 = 0 then app (cmp s x (sht y.1 y.2.1 y.2.2)).1.2 (cmp s x (sht y.1 y.2.1 y.2.2)).2 r else cmp s x (sht y.1 y.2.1 y.2.2)) := if_pos e151
    have AP2 : Hid _ := fun W z => AP.out W (cmp s x (sht y.1 y.2.1 y.2.2)).1.2 (cmp s x (sht y.1 y.2.1 y.2.2)).2 hcl2 z
    obtain ⟨wA, hA⟩ : ∃ z, wrA s x (sht y.1 y.2.1 y.2.2) r = z := ⟨_, rfl⟩
    rw [hA] at EW2 ⊢
    obtain ⟨⟨⟨yc, sc⟩, xc⟩, hcx⟩ : ∃ z, cmp s x (sht y.1 y.2.1 y.2.2) = z := ⟨_, rfl⟩
    rw [hcx] at CP AP2 EW2
    obtain ⟨N, hN⟩ : ∃ N, (sht y.1 y.2.1 y.2.2).length = N := ⟨_, rfl⟩
    rw [hN] at SH CP
    have EA : Hid (yc = 0 → wA = app sc xc r) := fun h => by rw [EW2]; exact if_pos h
    have EB : Hid (yc ≠ 0 → wA = ((yc, sc), xc)) := fun h => by rw [EW2]; exact if_neg h
    have J2 : Hid (PzP w w0 F0 p q b most s x y W.drew) := PzP.later kW (Below.refl _ _).drew
    have q0 := K0.out W s x y kW
    have SH3 : Hid _ := SH.out W.drew J2.out
    have CP3 : Hid _ := fun W2 a c hb tx hn => CP.out W.drew W2 a c J2.out hb tx hn
    obtain ⟨R, hR⟩ : ∃ R, st r = R := ⟨_, rfl⟩
    rw [hR] at AP2 ⊢
    clear EW2 hA hcx hN hR SH CP J2 e151 kW A0 AP SY TK EWP EWY hwl hcl2 hal hac hcl hshl k
    go_enter Tryz.func61, Tryz.ntmps61
    go_wp2_with fail
    go_region_held3 (fun w' => w'.cell? ⟨b, 0, none⟩ = some (.pointer (some ⟨q, 0, none⟩))) (first | exact q0 | assumption) (first | (go_at_call 95; refine Calls.mono SH3.out ?_; rintro e w3 ⟨a3, c3, rfl, hc3, H3, hb3⟩) | (go_at_call 94; refine Calls.mono (CP3.out _ _ _ hb3 H3.out.1 H3.out.2) ?_; rintro e w4 ⟨rfl, hc4, H4⟩))
    clear SH3 CP3 hb3 H3 hc3 q0
    by_cases h0 : yc = 0
    · have A4 : Hid _ := AP2.out w4 H4.out
      have EA1 := EA.out h0
      rw [← EA1] at A4
      subst h0
      clear AP2 H4 EA EB EA1
      go_wp2_with fail
      refine Calls.mono A4.out ?_
      rintro e w5 ⟨rfl, z5⟩
      have FF : Hid _ := z5
      clear z5 A4 hc4
      go_wp2
      go_ret
      exact ⟨rfl, FF.out⟩
    · have EB1 := EB.out h0
      have FF : Hid (wA.1.1 = yc ∧ PzP w w0 F0 p q b most wA.1.2 wA.2 y w4) := by rw [EB1]; exact ⟨rfl, H4.out⟩
      clear H4 AP2 EA EB EB1 hc4
      go_wp2
      go_ret
      exact ⟨by rw [FF.out.1]; rfl, FF.out.2⟩
  have TAIL : Hid (∀ W, PzP w w0 F0 p q b most (wrA s x (sht y.1 y.2.1 y.2.2) r).1.2 (wrA s x (sht y.1 y.2.1 y.2.2) r).2 y W → (wrA s x (sht y.1 y.2.1 y.2.2) r).1.1 = 0 → Calls Tryz.prog 44 #[.pointer (some ⟨q, 0, none⟩)] W fun e w' => e = .returned (.int .i64 (wrp s x (sht y.1 y.2.1 y.2.2) r).1.1) ∧ PzP w w0 F0 p q b most (wrp s x (sht y.1 y.2.1 y.2.2) r).1.2 (wrp s x (sht y.1 y.2.1 y.2.2) r).2 y w') := fun W z e0 => by
    have ew : wrp s x (sht y.1 y.2.1 y.2.2) r = ((syE (wrA s x (sht y.1 y.2.1 y.2.2) r).1.2, syS (wrA s x (sht y.1 y.2.1 y.2.2) r).1.2), (wrA s x (sht y.1 y.2.1 y.2.2) r).2) := by rw [EWP.out, if_neg (by rw [e0]; simp)]
    rw [ew]
    exact SY.out W _ _ hwl z
  have FNO : Hid (∀ W, PzP w w0 F0 p q b most (wrA s x (sht y.1 y.2.1 y.2.2) r).1.2 (wrA s x (sht y.1 y.2.1 y.2.2) r).2 y W → (wrA s x (sht y.1 y.2.1 y.2.2) r).1.1 ≠ 0 → (wrA s x (sht y.1 y.2.1 y.2.2) r).1.1 = (wrp s x (sht y.1 y.2.1 y.2.2) r).1.1 ∧ PzP w w0 F0 p q b most (wrp s x (sht y.1 y.2.1 y.2.2) r).1.2 (wrp s x (sht y.1 y.2.1 y.2.2) r).2 (wry s x y r) W) := fun W z e0 => by
    have ew : wrp s x (sht y.1 y.2.1 y.2.2) r = wrA s x (sht y.1 y.2.1 y.2.2) r := by rw [EWP.out, if_pos e0]
    rw [EWY.out, ew, if_neg e0]
    exact ⟨rfl, z⟩
  have EA0 : Hid ((app s x r).1.1 ≠ 151 → wrA s x (sht y.1 y.2.1 y.2.2) r = app s x r) := fun h => if_neg h
  have k0 := K0.out w1 s x y k.out
  obtain ⟨R, hR⟩ : ∃ R, st r = R := ⟨_, rfl⟩
  rw [hR] at A0 ASH TK ⊢
  obtain ⟨wP, hP⟩ : ∃ z, wrp s x (sht y.1 y.2.1 y.2.2) r = z := ⟨_, rfl⟩
  rw [hP] at TAIL FNO EWY ⊢
  obtain ⟨wY, hY⟩ : ∃ z, wry s x y r = z := ⟨_, rfl⟩
  rw [hY] at FNO EWY ⊢
  obtain ⟨wA, hA⟩ : ∃ z, wrA s x (sht y.1 y.2.1 y.2.2) r = z := ⟨_, rfl⟩
  rw [hA] at TAIL FNO ASH EA0
  clear hR hP hY hA hal hac hwl hcl hcl2 hshl SH CP SY EWP AP
  have REST : Hid (∀ W, PzP w w0 F0 p q b most wP.1.2 wP.2 y W → wP.1.1 = 0 → Calls Tryz.prog 33 #[.pointer (some ⟨b, 1, none⟩), .string R] W fun e w' => ∃ z : Bool, e = .returned (.bool z) ∧ PzP w w0 F0 p q b most wP.1.2 wP.2 wY w') := fun W z e0 => by
    rw [EWY.out, if_pos e0]
    exact TK.out W _ _ z
  have RNO : Hid (∀ W, PzP w w0 F0 p q b most wP.1.2 wP.2 y W → wP.1.1 ≠ 0 → PzP w w0 F0 p q b most wP.1.2 wP.2 wY W) := fun W z e0 => by
    rw [EWY.out, if_neg e0]
    exact z
  obtain ⟨pv, hpv⟩ : ∃ z, wP.1.1 = z := ⟨_, rfl⟩
  rw [hpv] at TAIL FNO REST RNO ⊢
  clear hpv EWY TK
  by_cases e151 : (app s x r).1.1 = 151
  · have e2 := app_151 e151
    rw [e2] at A0
    have A1 : Hid _ := fun W z => ASH.out W e151 z
    obtain ⟨av, hav⟩ : ∃ z, wA.1.1 = z := ⟨_, rfl⟩
    rw [hav] at A1 TAIL FNO
    clear ASH EA0 e2 e151 hav k
    go_enter Tryz.func35, Tryz.ntmps35
    go_wp2_with fail
    refine Calls.mono A0.out ?_
    rintro e w2 ⟨rfl, z2⟩
    have A2 : Hid _ := A1.out w2 z2
    clear z2 A0 k0 A1
    go_wp2_with fail
    refine Calls.mono A2.out ?_
    rintro e w3 ⟨rfl, z3⟩
    have J3 : Hid _ := z3
    have q0 := K0.out w3 _ _ _ z3
    clear z3 A2
    by_cases h0 : av = 0
    · have S3 : Hid _ := TAIL.out w3 J3.out h0
      subst h0
      clear TAIL FNO J3
      go_wp2_with fail
      refine Calls.mono S3.out ?_
      rintro e w4 ⟨rfl, z4⟩
      have J4 : Hid _ := z4
      have q1 := K0.out w4 _ _ _ z4
      clear z4 S3 q0
      by_cases h1 : pv = 0
      · have T4 : Hid _ := REST.out w4 J4.out h1
        subst h1
        clear REST RNO J4
        go_wp2_with fail
        refine Calls.mono T4.out ?_
        rintro e w5 ⟨zz, rfl, z5⟩
        have FF : Hid _ := z5
        clear z5 T4 q1
        go_wp2
        go_ret
        exact ⟨rfl, FF.out⟩
      · have FF : Hid _ := RNO.out w4 J4.out h1
        clear REST RNO J4 q1
        go_wp2
        go_ret
        exact ⟨rfl, FF.out⟩
    · have FF : Hid _ := FNO.out w3 J3.out h0
      clear TAIL FNO J3 REST RNO q0
      go_wp2
      go_ret
      exact ⟨by rw [← FF.out.1]; rfl, FF.out.2⟩
  · have ea := EA0.out e151
    rw [← ea] at A0 e151
    obtain ⟨av, hav⟩ : ∃ z, wA.1.1 = z := ⟨_, rfl⟩
    rw [hav] at A0 TAIL FNO e151
    clear ASH EA0 ea hav k
    go_enter Tryz.func35, Tryz.ntmps35
    go_wp2_with fail
    refine Calls.mono A0.out ?_
    rintro e w3 ⟨rfl, z3⟩
    have J3 : Hid _ := z3
    have q0 := K0.out w3 _ _ _ z3
    clear z3 A0 k0
    by_cases h0 : av = 0
    · have S3 : Hid _ := TAIL.out w3 J3.out h0
      subst h0
      clear TAIL FNO J3
      go_wp2_with fail
      refine Calls.mono S3.out ?_
      rintro e w4 ⟨rfl, z4⟩
      have J4 : Hid _ := z4
      have q1 := K0.out w4 _ _ _ z4
      clear z4 S3 q0
      by_cases h1 : pv = 0
      · have T4 : Hid _ := REST.out w4 J4.out h1
        subst h1
        clear REST RNO J4
        go_wp2_with fail
        refine Calls.mono T4.out ?_
        rintro e w5 ⟨zz, rfl, z5⟩
        have FF : Hid _ := z5
        clear z5 T4 q1
        go_wp2
        go_ret
        exact ⟨rfl, FF.out⟩
      · have FF : Hid _ := RNO.out w4 J4.out h1
        clear REST RNO J4 q1
        go_wp2
        go_ret
        exact ⟨rfl, FF.out⟩
    · have FF : Hid _ := FNO.out w3 J3.out h0
      clear TAIL FNO J3 REST RNO q0
      go_wp2
      go_ret
      exact ⟨by rw [← FF.out.1]; rfl, FF.out.2⟩
end Go.Proofs.YtageoeogofeckaaGreatDoor
namespace Go.Proofs.YtageoeogofeckaaGreatDoor
open Go.RowKit Go.Proofs.Fd Go.Proofs.Dk Go.Proofs.Lg
set_option maxRecDepth 20000
theorem tkE_tag {y : Ey} {t : Bs} (ht : t.length = 16) (hm : t ∉ y.2.1 ++ y.2.2) : tkE y (84 :: t) = some (y.1, y.2.1, y.2.2 ++ [t]) := by
  unfold tkE tkp
  rw [if_pos ⟨by rw [List.length_cons, ht], rfl⟩]
  show some (y.1, y.2.1, if t ∈ y.2.1 ++ y.2.2 then y.2.2 else y.2.2 ++ [t]) = _
  rw [if_neg hm]
theorem tkE_ep {y : Ey} (h : y.1 < 2147483647) : tkE y (69 :: ben (y.1 + 1) 4) = some (y.1 + 1, y.2.2, []) := by
  unfold tkE tkp
  have hn : nm (ben (y.1 + 1) 4) = y.1 + 1 := nm_ben4 (by omega)
  rw [if_neg (fun c => absurd c.1 (by rw [List.length_cons, ben_len]; decide)), if_pos ⟨by rw [List.length_cons, ben_len], rfl⟩]
  show (if nm (ben (y.1 + 1) 4) < y.1 ∨ 2147483647 < nm (ben (y.1 + 1) 4) then none else some (nm (ben (y.1 + 1) 4), tun y.1 y.2.1 y.2.2 (nm (ben (y.1 + 1) 4)))) = _
  rw [hn, if_neg (by omega), tun, if_neg (by omega), if_pos rfl]
theorem pzhas_any (w w0 : World) (F0 : Nat → Prop) (p q b most : Nat) (s : St) (x : Lo) (y : Ey) (hy : Gd y) (X : ByteArray) (w1 : World) (k : PzP w w0 F0 p q b most s x y w1) :
    Calls Tryz.prog 18 #[.pointer (some ⟨b, 0, none⟩), .string X] w1 fun e w' => e = .returned (.bool (decide (X.data.toList ∈ y.2.1 ++ y.2.2))) ∧ w' = w1 := by
  obtain ⟨F, v, va, vh, z, -, -⟩ := k
  have := hy.n
  exact shas_any b q y.1 most va vh y.2.1 y.2.2 (by omega) (by omega) X w1 z.es
theorem pzepoch_any (w w0 : World) (F0 : Nat → Prop) (p q b most : Nat) (s : St) (x : Lo) (y : Ey) (w1 : World) (k : PzP w w0 F0 p q b most s x y w1) :
    Calls Tryz.prog 9 #[.pointer (some ⟨b, 0, none⟩)] w1 fun e w' => e = .returned (.int .i64 (y.1 : Int)) ∧ w' = w1 := by
  obtain ⟨F, v, va, vh, z, -, -⟩ := k
  exact sepoch_any b q y.1 most va vh y.2.1 y.2.2 w1 z.es
theorem pztags_any (w w0 : World) (F0 : Nat → Prop) (p q b most : Nat) (s : St) (x : Lo) (y : Ey) (hy : Gd y) (w1 : World) (k : PzP w w0 F0 p q b most s x y w1) :
    Calls Tryz.prog 11 #[.pointer (some ⟨b, 0, none⟩)] w1 fun e w' => ∃ a c, e = .returned (.slice a (y.2.1 ++ y.2.2).length c) ∧ TxAt w' a (y.2.1 ++ y.2.2) ∧ Below w1.heap.size w1 w' := by
  obtain ⟨F, v, va, vh, z, -, -⟩ := k
  have := hy.n
  exact stags_any b q y.1 most va vh y.2.1 y.2.2 (by omega) (by omega) (fun t ht => by have := hy.t t ht; omega) w1 z.es
set_option maxHeartbeats 2000000 in
theorem pzadd_any (TC : TakeC) (w w0 : World) (F0 : Nat → Prop) (p q b most : Nat) (s : St) (x : Lo) (y : Ey) (hy : Gd y) (hl : s.l.length + 6000 ≤ 1000000) (hk : Hid (Kh w)) (X : ByteArray) (w1 : World) (k : Hid (PzP w w0 F0 p q b most s x y w1)) :
    Calls Tryz.prog 16 #[.pointer (some ⟨b, 0, none⟩), .string X] w1 fun e w' => e = .returned (.int .i64 (adp most s x y X.data.toList).1.1.1) ∧ PzP w w0 F0 p q b most (adp most s x y X.data.toList).1.1.2 (adp most s x y X.data.toList).1.2 (adp most s x y X.data.toList).2 w' := by
  have HS : Hid _ := pzhas_any w w0 F0 p q b most s x y hy X w1 k.out
  have hXs : X.data.toList.length = X.size := by simp
  obtain ⟨t, ht⟩ : ∃ t, X.data.toList = t := ⟨_, rfl⟩
  have hX : Hid (X = st t) := by show X = st t; rw [← ht]; rfl
  rw [ht] at HS hXs ⊢
  clear ht
  obtain ⟨r, hr⟩ : ∃ r, adp most s x y t = r := ⟨_, rfl⟩
  rw [hr]
  unfold adp at hr
  by_cases h16 : t.length ≠ 16
  · rw [if_pos h16] at hr
    have g1 : ¬ (X.size : Int) = 16 := by omega
    have FF : Hid (r.1.1.1 = 3 ∧ PzP w w0 F0 p q b most r.1.1.2 r.1.2 r.2 w1) := by rw [← hr]; exact ⟨rfl, k.out⟩
    clear hr k HS hX hXs h16
    go_enter Tryz.func16, Tryz.ntmps16
    go_wp2
    go_ret
    exact ⟨by rw [FF.out.1]; rfl, FF.out.2⟩
  · rw [if_neg h16] at hr
    have hX16 : X.size = 16 := by omega
    by_cases hm : t ∈ y.2.1 ++ y.2.2
    · rw [if_pos hm] at hr
      rw [decide_eq_true hm] at HS
      have FF : Hid (r.1.1.1 = 170 ∧ PzP w w0 F0 p q b most r.1.1.2 r.1.2 r.2 w1) := by rw [← hr]; exact ⟨rfl, k.out⟩
      clear hr k hX hXs h16 hm
      go_enter Tryz.func16, Tryz.ntmps16
      go_wp2_with fail
      refine Calls.mono HS.out ?_
      rintro e w2 ⟨rfl, rfl⟩
      go_wp2
      go_ret
      exact ⟨by rw [FF.out.1]; rfl, FF.out.2⟩
    · rw [if_neg hm] at hr
      rw [decide_eq_false hm] at HS
      have hyn := hy.n
      have KK : w1.cell? ⟨b, 4, none⟩ = some (.int .i64 (most : Int)) ∧ w1.cell? ⟨b, 0, none⟩ = some (.pointer (some ⟨q, 0, none⟩)) ∧ Hid (∀ W, Below w1.heap.size w1 W → Calls Tryz.prog 34 #[.pointer (some ⟨b, 1, none⟩)] W fun e w' => e = .returned (.int .i64 ((y.2.1.length + y.2.2.length : Nat) : Int)) ∧ Below w1.heap.size w1 w') := by
        obtain ⟨F, v, va, vh, z, -, -⟩ := k.out
        exact ⟨z.es.bk.c 4 _ rfl, z.es.bk.c 0 _ rfl, fun W hW => (emany_any b q y.1 most va vh y.2.1 y.2.2 (by omega) (by omega) W (z.es.later hW)).mono fun _ _ ⟨e1, hb⟩ => ⟨e1, chain hW hb⟩⟩
      obtain ⟨k4, k0, MN⟩ := KK
      by_cases hf : most ≤ y.2.1.length + y.2.2.length
      · rw [if_pos hf] at hr
        have FF : Hid (r.1.1.1 = 180 ∧ ∀ W, Below w1.heap.size w1 W → PzP w w0 F0 p q b most r.1.1.2 r.1.2 r.2 W) := by rw [← hr]; exact ⟨rfl, fun W hb => PzP.later k.out hb⟩
        obtain ⟨m, hmm⟩ : ∃ m, y.2.1.length + y.2.2.length = m := ⟨_, rfl⟩
        rw [hmm] at MN hf
        have g1 : (most : Int) ≤ (m : Int) := by omega
        clear hr k hX hXs h16 hm hmm hyn
        go_enter Tryz.func16, Tryz.ntmps16
        go_wp2_with fail
        refine Calls.mono HS.out ?_
        rintro e w2 ⟨rfl, rfl⟩
        clear HS
        go_wp2_with fail
        go_region_held3 (fun w' => w'.cell? ⟨b, 4, none⟩ = some (.int .i64 (most : Int)) ∧ Below w2.heap.size w2 w') (first | exact ⟨k4, (Below.refl _ _).drew⟩ | assumption | exact ⟨cell_later (by assumption) k4, by assumption⟩) (first | (go_at_call 34; refine Calls.mono (MN.out _ (by first | assumption | exact (Below.refl _ _).drew)) ?_; rintro e w3 ⟨rfl, hb3⟩))
        have F3 : Hid _ := FF.out.2 w3 hb3
        have F1 : Hid _ := FF.out.1
        clear hb3 MN k4 FF
        go_wp2
        go_ret
        exact ⟨by rw [F1.out]; rfl, F3.out⟩
      · rw [if_neg hf] at hr
        have TR : Hid (∀ W, Calls Tryz.prog 36 #[.string X] W fun e w' => e = .returned (.string (st (84 :: t))) ∧ w' = W) := fun W => by rw [hX.out]; exact stagr_any t (by omega) W
        have WR : Hid (∀ W, Below w1.heap.size w1 W → Calls Tryz.prog 35 #[.pointer (some ⟨b, 0, none⟩), .string (st (84 :: t))] W fun e w' => e = .returned (.int .i64 r.1.1.1) ∧ PzP w w0 F0 p q b most r.1.1.2 r.1.2 r.2 w') := fun W hb => by
          have := pzwrite_any TC w w0 F0 p q b most s x y (84 :: t) (by rw [List.length_cons]; omega) hy hl hk W (PzP.later k.out hb)
          unfold wry at this
          rw [tkE_tag (by omega) hm] at this
          rw [← hr]
          exact this
        obtain ⟨m, hmm⟩ : ∃ m, y.2.1.length + y.2.2.length = m := ⟨_, rfl⟩
        rw [hmm] at MN hf
        have g1 : ¬ (most : Int) ≤ (m : Int) := by omega
        obtain ⟨T, hT⟩ : ∃ T, st (84 :: t) = T := ⟨_, rfl⟩
        rw [hT] at TR WR
        clear hr k hX hXs h16 hm hmm hyn hT
        go_enter Tryz.func16, Tryz.ntmps16
        go_wp2_with fail
        refine Calls.mono HS.out ?_
        rintro e w2 ⟨rfl, rfl⟩
        clear HS
        go_wp2_with fail
        go_region_held3 (fun w' => w'.cell? ⟨b, 4, none⟩ = some (.int .i64 (most : Int)) ∧ Below w2.heap.size w2 w') (first | exact ⟨k4, (Below.refl _ _).drew⟩ | assumption | exact ⟨cell_later (by assumption) k4, by assumption⟩) (first | (go_at_call 34; refine Calls.mono (MN.out _ (by first | assumption | exact (Below.refl _ _).drew)) ?_; rintro e w3 ⟨rfl, hb3⟩))
        have W3 : Hid _ := WR.out w3 hb3
        clear hb3 MN k4 WR
        go_wp2_with fail
        refine Calls.mono (TR.out _) ?_
        rintro e w4 ⟨rfl, rfl⟩
        clear TR
        go_wp2_with fail
        refine Calls.mono W3.out ?_
        rintro e w5 ⟨rfl, z5⟩
        have FF : Hid _ := z5
        clear z5 W3
        go_wp2
        go_ret
        exact ⟨rfl, FF.out⟩
set_option maxHeartbeats 2000000 in
theorem pzrot_any (TC : TakeC) (w w0 : World) (F0 : Nat → Prop) (p q b most : Nat) (s : St) (x : Lo) (y : Ey) (hy : Gd y) (hl : s.l.length + 6000 ≤ 1000000) (hk : Hid (Kh w)) (w1 : World) (k : Hid (PzP w w0 F0 p q b most s x y w1)) :
    Calls Tryz.prog 17 #[.pointer (some ⟨b, 0, none⟩)] w1 fun e w' => e = .returned (.int .i64 (rop s x y).1.1.1) ∧ PzP w w0 F0 p q b most (rop s x y).1.1.2 (rop s x y).1.2 (rop s x y).2 w' := by
  have hye := hy.e
  have KK : w1.cell? ⟨b, 1, none⟩ = some (.int .i64 (y.1 : Int)) ∧ w1.cell? ⟨b, 0, none⟩ = some (.pointer (some ⟨q, 0, none⟩)) := by
    obtain ⟨F, v, va, vh, z, -, -⟩ := k.out
    exact ⟨z.es.bk.c 1 _ rfl, z.es.bk.c 0 _ rfl⟩
  obtain ⟨k1, k0⟩ := KK
  obtain ⟨r, hr⟩ : ∃ r, rop s x y = r := ⟨_, rfl⟩
  rw [hr]
  unfold rop at hr
  by_cases hm : 2147483647 ≤ y.1
  · rw [if_pos hm] at hr
    have FF : Hid (r.1.1.1 = 1 ∧ PzP w w0 F0 p q b most r.1.1.2 r.1.2 r.2 w1) := by rw [← hr]; exact ⟨rfl, k.out⟩
    obtain ⟨ep, hep⟩ : ∃ e : Int, (y.1 : Int) = e := ⟨_, rfl⟩
    obtain rfl : ep = 2147483647 := by omega
    rw [hep] at k1
    clear hr k hm hep hye
    go_enter Tryz.func17, Tryz.ntmps17
    go_wp2
    go_ret
    exact ⟨by rw [FF.out.1]; rfl, FF.out.2⟩
  · rw [if_neg hm] at hr
    have EP : Hid (Calls Tryz.prog 37 #[.int .i64 ((y.1 : Int) + 1)] w1 fun e w' => e = .returned (.string (st (69 :: ben (y.1 + 1) 4))) ∧ Below w1.heap.size w1 w') := sepr_any (y.1 + 1) w1
    have WR : Hid (∀ W, Below w1.heap.size w1 W → Calls Tryz.prog 35 #[.pointer (some ⟨b, 0, none⟩), .string (st (69 :: ben (y.1 + 1) 4))] W fun e w' => e = .returned (.int .i64 r.1.1.1) ∧ PzP w w0 F0 p q b most r.1.1.2 r.1.2 r.2 w') := fun W hb => by
      have := pzwrite_any TC w w0 F0 p q b most s x y (69 :: ben (y.1 + 1) 4) (by rw [List.length_cons, ben_len]; decide) hy hl hk W (PzP.later k.out hb)
      unfold wry at this
      rw [tkE_ep (by omega)] at this
      rw [← hr]
      exact this
    obtain ⟨ep, hep⟩ : ∃ e : Int, (y.1 : Int) = e := ⟨_, rfl⟩
    have g1 : ¬ ep = 2147483647 := by omega
    have y1 : IntKind.i64.wrap (ep + 1) = ep + 1 := by rw [IntKind.wrap_i64]; omega
    rw [hep] at k1 EP
    obtain ⟨E, hE⟩ : ∃ E, st (69 :: ben (y.1 + 1) 4) = E := ⟨_, rfl⟩
    rw [hE] at EP WR
    clear hr k hm hep hE hye
    go_enter Tryz.func17, Tryz.ntmps17
    go_wp2_with fail
    refine Calls.mono EP.out ?_
    rintro e w2 ⟨rfl, hb2⟩
    have W2 : Hid _ := WR.out w2 hb2
    clear WR EP hb2
    go_wp2_with fail
    refine Calls.mono W2.out ?_
    rintro e w3 ⟨rfl, z3⟩
    have FF : Hid _ := z3
    clear z3 W2
    go_wp2
    go_ret
    exact ⟨rfl, FF.out⟩
end Go.Proofs.YtageoeogofeckaaGreatDoor
namespace Go.Proofs.YtageoeogofeckaaGreatDoor
open Go.RowKit Go.Proofs.Fd Go.Proofs.Dk Go.Proofs.Lg
set_option maxRecDepth 20000
theorem PzP.trans {w w0 w1 : World} {F0 F1 : Nat → Prop} {p q b most : Nat} {s : St} {x : Lo} {y : Ey} {w2 : World} (k : PzP w w1 F1 p q b most s x y w2) (hn : Nx w0 F0 F1) (hf : Bf F0 w0 w1) : PzP w w0 F0 p q b most s x y w2 := by
  obtain ⟨F, v, va, vh, z, n, f⟩ := k
  exact ⟨F, v, va, vh, z, hn.trans n hf.size, hf.trans hn f⟩
def PoR (w w0 : World) (F0 : Nat → Prop) (p : Nat) (most : Int) (r : (Int × St) × Option (Lo × Ey)) (e : Ending) (w' : World) : Prop :=
  match r.2 with
  | none => e = .returned (.tuple #[.pointer none, .int .i64 r.1.1]) ∧ Ds w w0 p F0 r.1.2 w'
  | some (x, y) => ∃ q b, e = .returned (.tuple #[.pointer (some ⟨b, 0, none⟩), .int .i64 0]) ∧ r.1.1 = 0 ∧ PzP w w0 F0 p q b most.toNat r.1.2 x y w'
theorem por_no {w w0 : World} {F0 : Nat → Prop} {p : Nat} {most : Int} {r : (Int × St) × Option (Lo × Ey)} {z : Int} {s : St} {w' : World} (h : r = ((z, s), none)) (k : Ds w w0 p F0 s w') : PoR w w0 F0 p most r (.returned (.tuple #[.pointer none, .int .i64 z])) w' := by
  subst h
  exact ⟨rfl, k⟩
theorem PzP.ds {w w0 : World} {F0 : Nat → Prop} {p q b most : Nat} {s : St} {x : Lo} {y : Ey} {w1 : World} (k : PzP w w0 F0 p q b most s x y w1) : Ds w w0 p F0 s w1 := by
  obtain ⟨F, v, va, vh, z, n, f⟩ := k
  exact ⟨F, z.lz.hd_.dl, fun y hy => n y (.inl (.inl hy)), f⟩
theorem lopen_all (w w0 : World) (p : Nat) (F0 : Nat → Prop) (s : St) (hl : s.l.length + 2000 ≤ 1000000) (hk : Hid (Kh w)) (D : Hid (Dl w w0 p F0 s)) :
    Calls Tryz.prog 31 #[.pointer (some ⟨p, 0, none⟩)] w0 fun e w' => OpP w w0 p F0 (s.n / 2) (opn s).1 (opn s).2 e w' := by
  by_cases h : s.n / 2 < 2
  · have e : opn s = ((4, s), ⟨0, 0, []⟩) := by unfold opn; rw [if_pos h]
    rw [e]
    refine (lopen_small w w0 p F0 s h D).mono ?_
    rintro e w' ⟨he, rfl⟩
    exact ⟨F0, D.out, Nx.refl _ _, Bf.refl _ _, .inr ⟨(show (4 : Int) ≠ 0 by decide), he⟩⟩
  · exact lopen_any w w0 p F0 s (by omega) hl hk D
theorem opn_ok {s : St} (h : (opn s).1.1 = 0) (hOk : Ok s) : 4 ≤ s.n ∧ (opn s).2.h ≤ 1 ∧ (opn s).1.2.n = s.n ∧ (opn s).2.tk ≤ s.n / 2 ∧ ∀ t ∈ (opn s).2.ts, 1 ≤ t.length ∧ t.length ≤ 2000 := by
  unfold opn at h ⊢
  by_cases h1 : s.n / 2 < 2
  · rw [if_pos h1] at h; cases h
  · rw [if_neg h1] at h ⊢
    by_cases h2 : s.down = true
    · rw [if_pos h2] at h; cases h
    · rw [if_neg h2] at h ⊢
      by_cases h3 : (use s).2 = 0
      · rw [if_pos h3]
        exact ⟨by omega, by show (0 : Nat) ≤ 1; decide, bgn_n _ _ _ _ _, by show 1 ≤ s.n / 2; omega, nofun⟩
      · rw [if_neg h3]
        have hl : ((hb s ((use s).1 * (s.n / 2)) (s.n / 2)).drop 64).length = 64 * (s.n / 2 - 1) := by rw [List.length_drop, hb_len hOk]; omega
        have hfit := scan_fits.scan_le 0 [] (s.n / 2) (s.n / 2 - 1) ((hb s ((use s).1 * (s.n / 2)) (s.n / 2)).drop 64) (hm (use s).2) 1 hl
        refine ⟨by omega, ?_, cln_n _ _ _, ?_, fun t ht => scan_fits.scan_ok _ _ _ t ht⟩
        · show (use s).1 ≤ 1
          unfold use
          split
          · exact Nat.le_refl 1
          · exact Nat.zero_le 1
        · show tkn 1 (recs s _ _ _) ≤ s.n / 2
          unfold recs
          omega
set_option maxHeartbeats 4000000 in
theorem pzopen_any (TC : TakeC) (w w0 : World) (p : Nat) (F0 : Nat → Prop) (s : St) (most : Int) (hn : s.n ≤ 1024) (hl : s.l.length + 5000 ≤ 1000000) (hk : Hid (Kh w)) (D : Hid (Dl w w0 p F0 s)) :
    Calls Tryz.prog 15 #[.pointer (some ⟨p, 0, none⟩), .int .i64 most] w0 fun e w' => PoR w w0 F0 p most (opz most s (opn s)) e w' := by
  obtain ⟨r, hr⟩ : ∃ r, opz most s (opn s) = r := ⟨_, rfl⟩
  rw [hr]
  unfold opz at hr
  by_cases h1 : most < 1
  · rw [if_pos (.inl h1)] at hr
    have FF : Hid (PoR w w0 F0 p most r (.returned (.tuple #[.pointer none, .int .i64 1])) w0) := por_no hr.symm ⟨F0, D.out, Nx.refl _ _, Bf.refl _ _⟩
    clear hr D
    go_enter Tryz.func15, Tryz.ntmps15
    go_wp2
    go_ret2
    exact FF.out
  · by_cases h2 : 4096 < most
    · rw [if_pos (.inr h2)] at hr
      have FF : Hid (PoR w w0 F0 p most r (.returned (.tuple #[.pointer none, .int .i64 1])) w0) := por_no hr.symm ⟨F0, D.out, Nx.refl _ _, Bf.refl _ _⟩
      clear hr D
      go_enter Tryz.func15, Tryz.ntmps15
      go_wp2
      go_ret2
      exact FF.out
    · rw [if_neg (by omega)] at hr
      have OP : Hid _ := lopen_all w w0 p F0 s (by omega) hk D
      have OK : Hid _ := fun (h : (opn s).1.1 = 0) => opn_ok h D.out.at_.1
      obtain ⟨⟨⟨oe, os⟩, ox⟩, ho⟩ : ∃ o, opn s = o := ⟨_, rfl⟩
      rw [ho] at hr OP OK
      have hr' : (if oe ≠ 0 then ((oe, os), (none : Option (Lo × Ey))) else match tks (0, [], []) ox.ts with
        | none => ((160, os), none)
        | some y => ((0, os), some (ox, y))) = r := hr
      have HR : Hid _ := hr'
      obtain ⟨M, hM⟩ : ∃ M : Nat, most = (M : Int) := ⟨most.toNat, by omega⟩
      subst hM
      clear hr hr' ho D
      go_enter Tryz.func15, Tryz.ntmps15
      go_wp2_with fail
      refine Calls.mono OP.out ?_
      rintro e w1 ⟨F1, dl, nx, bf, hres⟩
      clear OP
      rcases hres with ⟨h0, q, v, rfl, hd, hnew⟩ | ⟨h0, rfl⟩
      · have h0' : oe = 0 := h0
        obtain ⟨o4, oh, on, otk, ook⟩ := OK.out h0
        have on' : os.n = s.n := on
        have HR2 := HR.out
        rw [if_neg (by rw [h0']; simp)] at HR2
        have ER : Hid _ := HR2
        have LZ : Lz w w1 p F1 os q v ox := ⟨by rw [on']; exact hd, oh, by rw [on']; exact o4, by rw [on']; exact hn, by rw [on']; exact otk, ook⟩
        have tl := LZ.tlen
        have TOK : Hid (∀ t ∈ ox.ts, t.length ≤ 2000) := fun t ht => (ook t ht).2
        have E1 : Es (w1.alloc (.cells #[.pointer (some ⟨q, 0, none⟩), .int .i64 ((0 : Nat) : Int), .slice none 0 0, .slice none 0 0, .int .i64 (M : Int)] 75)) w1.heap.size q 0 M (.slice none 0 0) (.slice none 0 0) [] [] :=
          ⟨Blk.new w1 (stc q 0 (.slice none 0 0) (.slice none 0 0) M) _ (by simp), owns_nilS _, owns_nilS _, (fun c => by cases c), (fun c => by cases c), fun g c => by cases c⟩
        have Z1 : Hid (Pz w (w1.alloc (.cells #[.pointer (some ⟨q, 0, none⟩), .int .i64 ((0 : Nat) : Int), .slice none 0 0, .slice none 0 0, .int .i64 (M : Int)] 75)) p F1 os q v ox w1.heap.size M (.slice none 0 0) (.slice none 0 0) (0, [], []) ∧ Nx w0 F0 (FP F1 q v w1.heap.size (.slice none 0 0) (.slice none 0 0)) ∧ Bf F0 w0 (w1.alloc (.cells #[.pointer (some ⟨q, 0, none⟩), .int .i64 ((0 : Nat) : Int), .slice none 0 0, .slice none 0 0, .int .i64 (M : Int)] 75))) := by
          refine ⟨⟨LZ.later (nb _ _), E1, fun z hz => ?_⟩, fun z hz => ?_, bf.later (nb _ _)⟩
          · rcases hz with rfl | e | e
            · exact ⟨fun c => Nat.lt_irrefl _ (LZ.fh c).1, LZ.hd_.dl.below.size⟩
            · cases e
            · cases e
          · rcases hz with (e | e) | e
            · exact nx z e
            · exact .inr (hnew z e)
            · rcases e with rfl | e | e
              · exact .inr bf.size
              · cases e
              · cases e
        obtain ⟨b, hb⟩ : ∃ b, w1.heap.size = b := ⟨_, rfl⟩
        rw [hb] at Z1
        have RC : Hid (Calls Tryz.prog 32 #[.pointer (some ⟨q, 0, none⟩)] (w1.alloc (.cells #[.pointer (some ⟨q, 0, none⟩), .int .i64 0, .slice none 0 0, .slice none 0 0, .int .i64 (M : Int)] 75)) fun e w' => ∃ a c, e = .returned (.slice a ox.ts.length c) ∧ Hid (TxAt w' a ox.ts ∧ Pz w w' p F1 os q v ox b M (.slice none 0 0) (.slice none 0 0) (0, [], []) ∧ Nx w0 F0 (FP F1 q v b (.slice none 0 0) (.slice none 0 0)) ∧ Bf F0 w0 w' ∧ Ap a ox.ts (FP F1 q v b (.slice none 0 0) (.slice none 0 0)))) := by
          obtain ⟨z1, z2, z3⟩ := Z1.out
          refine (lrecords_any q p _ _ ox.g v ox.ts ox.tk ox.mr [] _ (by omega) (fun t ht => (ook t ht).2) z1.lz.hd_.hf).mono ?_
          rintro e w' ⟨u, he, ho, hb'⟩
          obtain ⟨a, c, rfl, tx, hbase⟩ := owns_txn rfl ho
          refine ⟨a, c, he, tx, ⟨z1.lz.later hb', z1.es.later hb', z1.ap⟩, z2, z3.later hb', fun g e _ cc => ?_⟩
          have h3 := hbase g e
          rcases cc with cc | cc
          · have h4 := (z1.lz.fh cc).1
            exact absurd h4 (Nat.not_lt.2 h3)
          · have h4 := z1.es.lt cc
            exact absurd h4 (Nat.not_lt.2 h3)
        subst h0'
        obtain ⟨N, hN⟩ : ∃ N, ox.ts.length = N := ⟨_, rfl⟩
        have HN : Hid (ox.ts.length = N) := hN
        rw [hN] at RC tl
        clear dl nx bf hd hnew HR HR2 LZ E1 Z1 OK hN o4 oh on on' otk ook h0
        go_wp2_with fail
        refine Calls.mono RC.out ?_
        rintro e w3 ⟨a3, c3, rfl, H3⟩
        clear RC
        go_wp2
        obtain ⟨FS, hFS⟩ : ∃ FS, FP F1 q v b (.slice none 0 0) (.slice none 0 0) = FS := ⟨_, rfl⟩
        have P3 : Hid (PzP w w3 FS p q b M os ox (0, [], []) w3) := ⟨F1, v, _, _, H3.out.2.1, by rw [hFS]; exact Nx.refl _ _, Bf.refl _ _⟩
        have T3 : Hid (TxAt w3 a3 ox.ts ∧ Ap a3 ox.ts FS ∧ Nx w0 F0 FS ∧ Bf F0 w0 w3) := ⟨H3.out.1, by rw [← hFS]; exact H3.out.2.2.2.2, by rw [← hFS]; exact H3.out.2.2.1, H3.out.2.2.2.1⟩
        clear H3 hFS hb
        go_loopw [35] (fun i wr => ∃ (k : Nat) (y : Ey), k ≤ N ∧ i = .int .i64 (k : Int) ∧ Hid (tks (0, [], []) (ox.ts.take k) = some y ∧ Gn k y ∧ PzP w w3 FS p q b M os ox y wr)) (fun i _ => N - (intOf i).toNat)
        case atStart => exact ⟨0, (0, [], []), Nat.zero_le _, rfl, by rw [List.take_zero]; rfl, Gn.start, P3.out⟩
        case round =>
          obtain ⟨k, y, hk', rfl, J⟩ := hrel
          clear P3
          obtain ⟨F2, v2, va2, vh2, z2, n2, f2⟩ := J.out.2.2
          by_cases hlt : k < N
          · have hkl : k < ox.ts.length := by rw [HN.out]; exact hlt
            have g1 : (k : Int) < (N : Int) := by omega
            obtain ⟨g, o, rfl, c1⟩ := (T3.out.1.bf f2 T3.out.2.1) k hkl
            have ET : Hid (ox.ts.take (k + 1) = ox.ts.take k ++ [ox.ts[k]]) := List.take_succ_eq_append_getElem hkl
            have ED : Hid (ox.ts = ox.ts.take (k + 1) ++ ox.ts.drop (k + 1)) := (List.take_append_drop _ _).symm
            have htl := TOK.out _ (List.getElem_mem hkl)
            have TK : Hid _ := TC b q M va2 vh2 y ox.ts[k] wr (J.out.2.1.gd (by omega)) htl z2.es
            have b0 := z2.es.bk.c 0 _ rfl
            obtain ⟨t, ht⟩ : ∃ t, ox.ts[k] = t := ⟨_, rfl⟩
            rw [ht] at c1 ET TK
            unfold sv at c1
            have TK2 : Hid (Calls Tryz.prog 33 #[.pointer (some ⟨b, 1, none⟩), .string (st t)] wr fun e w' => e = .returned (.bool (tkE y t).isSome) ∧ PzP w w3 FS p q b M os ox ((tkE y t).getD y) w') := Calls.mono TK.out fun e w' ⟨e1, va', vh', e2, e3, e4⟩ => ⟨e1, z2.set e2 e3 e4 n2 f2⟩
            obtain ⟨T, hT⟩ : ∃ T, st t = T := ⟨_, rfl⟩
            rw [hT] at TK2 c1
            have JJ : Hid (tks (0, [], []) (ox.ts.take k) = some y ∧ Gn k y) := ⟨J.out.1, J.out.2.1⟩
            clear TK z2 n2 f2 J hT ht htl
            cases htk : tkE y t with
            | none =>
              rw [htk] at TK2
              have FR : Hid (tks (0, [], []) ox.ts = none) := by
                show _ = _
                rw [ED.out, ET.out]
                refine tks_no ?_
                rw [tks_app, JJ.out.1]
                exact htk
              have ER2 := ER.out
              rw [FR.out] at ER2
              have FF : Hid (∀ w', PzP w w3 FS p q b M os ox y w' → PoR w w0 F0 p (M : Int) r (.returned (.tuple #[.pointer none, .int .i64 160])) w') := fun w' k => por_no ER2.symm (k.trans T3.out.2.2.1 T3.out.2.2.2).ds
              clear JJ ET ED FR ER2 htk
              go_wp2_with fail
              refine Calls.mono TK2.out ?_
              rintro e w2 ⟨rfl, z4⟩
              have F3 : Hid _ := FF.out w2 z4
              clear TK2 FF z4
              go_wp2
              go_ret2
              exact F3.out
            | some z =>
              rw [htk] at TK2
              have FR : Hid (tks (0, [], []) (ox.ts.take (k + 1)) = some z ∧ Gn (k + 1) z) := ⟨by rw [ET.out, tks_app, JJ.out.1]; exact htk, tkE_gn JJ.out.2 htk⟩
              clear JJ ET ED htk
              go_wp2_with fail
              refine Calls.mono TK2.out ?_
              rintro e w2 ⟨rfl, z4⟩
              have F3 : Hid _ := z4
              clear TK2 z4
              go_wp2
              go_roundw
              case rel => exact ⟨k + 1, z, by omega, rfl, FR.out.1, FR.out.2, F3.out⟩
              case measure => simp [intOf]; omega
          · have g1 : ¬ (k : Int) < (N : Int) := by omega
            have FR : tks (0, [], []) ox.ts = some y := by
              have := J.out.1
              rw [List.take_of_length_le (by rw [HN.out]; omega)] at this
              exact this
            have ER2 := ER.out
            rw [FR] at ER2
            have FF : Hid (PoR w w0 F0 p (M : Int) r (.returned (.tuple #[.pointer (some ⟨b, 0, none⟩), .int .i64 0])) wr) := by
              rw [← ER2]
              exact ⟨q, b, rfl, rfl, J.out.2.2.trans T3.out.2.2.1 T3.out.2.2.2⟩
            clear J ER2 FR z2 n2 f2
            go_wp2
            go_ret2
            exact FF.out
      · have h0' : oe ≠ 0 := h0
        have HR2 := HR.out
        rw [if_pos h0'] at HR2
        have FF : Hid (PoR w w0 F0 p (M : Int) r (.returned (.tuple #[.pointer none, .int .i64 oe])) w1) := por_no HR2.symm ⟨F1, dl, nx, bf⟩
        clear HR HR2 dl nx bf OK h0
        go_wp2
        go_ret2
        exact FF.out
end Go.Proofs.YtageoeogofeckaaGreatDoor
namespace Go.Proofs.YtageoeogofeckaaGreatDoor
open Go.RowKit Go.Proofs.Fd Go.Proofs.Dk Go.Proofs.Lg
set_option maxRecDepth 20000
def Hd4 (b : Bs) : Prop := (b.getD 4 0).toNat < 128
theorem hd4_zr : Hd4 (zr 64) := by
  unfold Hd4 zr
  decide
theorem hd4_hd {g : Nat} (h : g ≤ 2147483647) : Hd4 (hd g) := by
  have e : hd g = [76, 79, 71, 0] ++ (ben g 4 ++ (hm g ++ zr ((64 - (hf g ++ hm g).length % 64) % 64))) := by simp [hd, pdd, hf]
  unfold Hd4
  rw [e, rben4]
  show (UInt8.ofNat (g / 16777216)).toNat < 128
  rw [UInt8.toNat_ofNat']
  omega
theorem hd4_mix {p : Nat} {a b : Bs} (ha : Hd4 a) (hb : Hd4 b) (la : a.length = 64) : Hd4 (mix p a b) := by
  unfold Hd4 at *
  unfold mix
  by_cases hp : 4 < p
  · have : (a.take p ++ b.drop p).getD 4 0 = a.getD 4 0 := by
      rw [List.getD_eq_getElem?_getD, List.getD_eq_getElem?_getD, List.getElem?_append_left (by rw [List.length_take]; omega), List.getElem?_take_of_lt hp]
    rw [this]
    exact ha
  · have : (a.take p ++ b.drop p).getD 4 0 = b.getD 4 0 := by
      rw [List.getD_eq_getElem?_getD, List.getD_eq_getElem?_getD, List.getElem?_append_right (by rw [List.length_take]; omega), List.length_take, List.getElem?_drop, show p + (4 - min p a.length) = 4 by omega]
    rw [this]
    exact hb
def Bg (n k : Nat) : Prop := k = 0 ∨ k = n / 2
structure Hh (s : St) : Prop where
  f : ∀ k, Bg s.n k → Hd4 (s.f k)
  l : ∀ x ∈ s.l, Bg s.n x.k → Hd4 x.b
theorem lay_hd4 : ∀ (l : List Wt) (f : Nat → Bs) (k : Nat), Hd4 (f k) → (∀ x ∈ l, x.k = k → Hd4 x.b) → Hd4 (lay f l k)
  | [], _, _, h, _ => h
  | x :: l, f, k, h, hl => by
    refine lay_hd4 l _ k ?_ (fun y hy => hl y (List.mem_cons_of_mem _ hy))
    unfold upd
    split
    · rename_i e
      exact hl x (List.mem_cons_self ..) e.symm
    · exact h
theorem Hh.sh {s : St} (h : Hh s) {k : Nat} (hk : Bg s.n k) : Hd4 (s.sh k) := lay_hd4 _ _ k (h.f k hk) (fun x hx e => h.l x hx (by rw [e]; exact hk))
theorem tear_hd4 (ps : List Int) : ∀ (l : List Wt) (f : Nat → Bs) (i k : Nat), (∀ k, (f k).length = 64) → (∀ x ∈ l, x.b.length = 64) → Hd4 (f k) → (∀ x ∈ l, x.k = k → Hd4 x.b) → Hd4 (tear ps f l i k)
  | [], _, _, _, _, _, h, _ => h
  | x :: l, f, i, k, hf, hl, h, hk => by
    refine tear_hd4 ps l _ _ k (upd_64 hf _ (mix_len (pkAt_lt ps i) (hl x (List.mem_cons_self ..)) (hf _))) (fun y hy => hl y (List.mem_cons_of_mem _ hy)) ?_ (fun y hy => hk y (List.mem_cons_of_mem _ hy))
    unfold upd
    split
    · rename_i e
      rw [← e]
      exact hd4_mix (hk x (List.mem_cons_self ..) e.symm) h (hl x (List.mem_cons_self ..))
    · exact h
theorem Hh.crash {s : St} (h : Hh s) (ok : Ok s) (ps : List Int) : Hh (crS s ps) :=
  ⟨fun k hk => tear_hd4 ps s.l s.f 0 k ok.f64 (fun x hx => (ok.wk x hx).2) (h.f k hk) (fun x hx e => h.l x hx (by rw [e]; exact hk)), nofun⟩
theorem Hh.fuse {s : St} (h : Hh s) (n : Int) : Hh (fuS s n) := by
  unfold fuS
  split
  · exact h
  · split
    · exact h
    · exact ⟨h.f, h.l⟩
theorem Hh.sync {s : St} (h : Hh s) : Hh (syS s) := by
  unfold syS
  split
  · exact h
  · split
    · exact ⟨h.f, h.l⟩
    · exact ⟨fun k hk => h.sh hk, nofun⟩
theorem Hh.write {s : St} (h : Hh s) (k : Nat) (b : Bs) (hb : Bg s.n k → Hd4 b) : Hh (wrS s (k : Int) b) := by
  unfold wrS
  split
  · exact h
  · split
    · exact h
    · split
      · exact ⟨h.f, h.l⟩
      · refine ⟨h.f, fun x hx hx2 => ?_⟩
        rcases List.mem_append.1 hx with hx | hx
        · exact h.l x hx hx2
        · rw [List.mem_singleton] at hx
          subst hx
          rw [Int.toNat_natCast] at hx2
          exact hb hx2
theorem Hh.thn {z : Int × St} {f : St → Int × St} (h : Hh z.2) (hf : ∀ s, Hh s → s.n = z.2.n → Hh (f s).2) : Hh (thn z f).2 := by
  by_cases h0 : z.1 = 0
  · rw [thn_ok h0]; exact hf _ h rfl
  · rw [thn_no h0]; exact h
theorem Hh.wrs : ∀ (bs : List Bs) (s : St) (k : Nat), Hh s → (∀ j, j < bs.length → ¬ Bg s.n (k + j)) → Hh (wrs s k bs).2
  | [], _, _, h, _ => h
  | b :: bs, s, k, h, hk => by
    rw [Lg.wrs]
    refine Hh.thn (z := (wrE s (k : Int) b, wrS s (k : Int) b)) (h.write k b (fun c => absurd c (hk 0 (by simp)))) (fun s' h' hn => ?_)
    have hn' : s'.n = s.n := hn.trans (wrS_n s _ b)
    exact Hh.wrs bs s' (k + 1) h' (fun j hj => by rw [hn', show k + 1 + j = k + (j + 1) by omega]; exact hk (j + 1) (by simpa using hj))
theorem Hh.wrb {s : St} (h : Hh s) (k : Nat) (b : Bs) (hk : ∀ j, j < b.length / 64 → ¬ Bg s.n (k + j)) : Hh (wrb s k b).2 := Hh.wrs _ s k h (fun j hj => hk j (by rw [chs_len] at hj; exact hj))
theorem Hh.cls : ∀ (m : Nat) (s : St) (k : Nat) (d : Bool), Hh s → Hh (cls s k m d).2
  | 0, s, k, d, h => by
    rw [Lg.cls]
    split
    · exact h.sync
    · exact h
  | m + 1, s, k, d, h => by
    rw [Lg.cls]
    split
    · exact Hh.cls m s _ d h
    · exact Hh.thn (z := (wrE s (k : Int) (zr 64), wrS s (k : Int) (zr 64))) (h.write k _ (fun _ => hd4_zr)) (fun s' h' _ => Hh.cls m s' _ true h')
theorem Hh.cln {s : St} (h : Hh s) (k m : Nat) : Hh (cln s k m).2 := by
  unfold Lg.cln
  split
  · exact h
  · exact Hh.cls m s k false h
theorem half_in {n h tk m j : Nat} (hh : h ≤ 1) (h1 : 1 ≤ tk) (h2 : tk + m ≤ n / 2) (hj : j < m) : ¬ Bg n (h * (n / 2) + tk + j) := by
  unfold Bg
  rcases (by omega : h = 0 ∨ h = 1) with rfl | rfl
  · rw [Nat.zero_mul]; omega
  · rw [Nat.one_mul]; omega
theorem Hh.pts {h : Nat} (hh : h ≤ 1) : ∀ (l : List Bs) (s : St) (tk : Nat) (a : Bs), Hh s → 1 ≤ tk → tk + sns l ≤ s.n / 2 → Hh (pts s (h * (s.n / 2)) tk a l).2
  | [], _, _, _, k, _, _ => k
  | t :: l, s, tk, a, k, h1, h2 => by
    have h2' : tk + (sn t + sns l) ≤ s.n / 2 := h2
    rw [Lg.pts]
    refine Hh.thn (k.wrb _ _ (fun j hj => half_in hh h1 (show tk + sn t ≤ s.n / 2 by omega) (by rw [rcd_len] at hj; omega))) (fun s' k' hn => ?_)
    have hn' : s'.n = s.n := hn.trans (wrb_n s _ _)
    have := Hh.pts hh l s' (tk + sn t) (rmk a t) k' (by omega) (by rw [hn']; omega)
    rw [hn'] at this
    exact this
theorem Hh.bgn {s : St} (k : Hh s) {h g : Nat} (hh : h ≤ 1) (hg : g ≤ 2147483647) (ts : List Bs) (hs : 1 + sns ts ≤ s.n / 2) : Hh (bgn s (h * (s.n / 2)) (s.n / 2) g ts).2 := by
  unfold Lg.bgn
  refine Hh.thn (k.cln _ _) (fun s1 k1 n1 => ?_)
  have n1' : s1.n = s.n := n1.trans (cln_n _ _ _)
  have p1 := Hh.pts hh ts s1 1 (hm g) k1 (Nat.le_refl _) (by rw [n1']; exact hs)
  rw [n1'] at p1
  refine Hh.thn p1 (fun s2 k2 n2 => ?_)
  refine Hh.thn (z := (syE s2, syS s2)) k2.sync (fun s3 k3 n3 => ?_)
  have e1 := wrb_one s3 (h * (s.n / 2)) (hd g) (hd_len g)
  rw [e1]
  refine Hh.thn (z := (wrE s3 ((h * (s.n / 2) : Nat) : Int) (hd g), wrS s3 ((h * (s.n / 2) : Nat) : Int) (hd g))) (k3.write _ _ (fun _ => hd4_hd hg)) (fun s4 k4 _ => k4.sync)
theorem Hh.app {s : St} (k : Hh s) {x : Lo} (hh : x.h ≤ 1) (t : Bs) : Hh (app s x t).1.2 := by
  unfold Lg.app
  split
  · exact k
  · split
    · exact k
    · rename_i h2
      have h1 : 1 ≤ x.tk := tkn_ge x.ts 1
      exact k.wrb _ _ (fun j hj => half_in hh h1 (show x.tk + sn t ≤ s.n / 2 by omega) (by rw [rcd_len] at hj; omega))
theorem Hh.cmp {s : St} (k : Hh s) {x : Lo} (hh : x.h ≤ 1) (hn : 4 ≤ s.n) (ts : List Bs) : Hh (cmp s x ts).1.2 := by
  unfold Lg.cmp
  split
  · exact k
  · split
    · exact k
    · rename_i h2
      split
      · exact k
      · rename_i h3
        exact k.bgn (by omega) (by omega) ts (by omega)
theorem gen_same {s : St} (ok : Ok s) {k : Nat} (h : Hd4 (s.sh k)) {H : Nat} (hH : 1 ≤ H) : genr (s.sh k) = gen (hb s k H) ∧ gen (hb s k H) ≤ 2147483647 := by
  have l64 := ok.sh64 k
  obtain ⟨m, rfl⟩ : ∃ m, H = 1 + m := ⟨H - 1, by omega⟩
  have e1 : hb s k 1 = s.sh k := by simp [hb]
  rw [hb_app, e1]
  obtain ⟨b, hbb⟩ : ∃ b, s.sh k = b := ⟨_, rfl⟩
  rw [hbb] at h l64 ⊢
  obtain ⟨r, hr⟩ : ∃ r, hb s (k + 1) m = r := ⟨_, rfl⟩
  rw [hr]
  have e4 : ((b ++ r).drop 4).take 4 = (b.drop 4).take 4 := by
    rw [List.drop_append_of_le_length (by omega), List.take_append_of_le_length (by rw [List.length_drop]; omega)]
  have hn : nm ((b.drop 4).take 4) < 2147483648 := by
    rw [four b (by omega)]
    have h4 : b[4].toNat < 128 := by
      have : b.getD 4 0 = b[4] := by rw [List.getD_eq_getElem?_getD, List.getElem?_eq_getElem (by omega)]; rfl
      unfold Hd4 at h
      rw [this] at h
      exact h
    have h5 := b[5].toNat_lt
    have h6 := b[6].toNat_lt
    have h7 := b[7].toNat_lt
    omega
  unfold gen genr
  rw [e4]
  obtain ⟨n, hnn⟩ : ∃ n, nm ((b.drop 4).take 4) = n := ⟨_, rfl⟩
  rw [hnn] at hn ⊢
  have hp : (hd n).isPrefixOf (b ++ r) = true ↔ b = hd n := by
    rw [List.isPrefixOf_iff_prefix]
    constructor
    · rintro ⟨t, ht⟩
      have := congrArg (List.take 64) ht
      rw [List.take_left' (hd_len n), List.take_left' l64] at this
      exact this.symm
    · intro e
      rw [e]
      exact List.prefix_append _ _
  by_cases hb2 : b = hd n
  · rw [if_pos (hp.2 hb2)]
    by_cases h0 : n < 1
    · rw [if_pos (.inl h0)]
      omega
    · rw [if_neg (by rintro (c | c | c); omega; omega; exact c hb2)]
      omega
  · rw [if_neg (fun c => hb2 (hp.1 c)), if_pos (.inr (.inr hb2))]
    omega
theorem opn_same {s : St} (ok : Ok s) (h : Hh s) : opnr s = opn s := by
  unfold opnr opn
  by_cases h1 : s.n / 2 < 2
  · rw [if_pos h1, if_pos h1]
  · rw [if_neg h1, if_neg h1]
    have e0 := (gen_same ok (h.sh (.inl rfl)) (H := s.n / 2) (by omega)).1
    have eH := (gen_same ok (h.sh (.inr rfl)) (H := s.n / 2) (by omega)).1
    have eu : user s = use s := by
      unfold user use
      rw [e0, eH]
    rw [eu]
theorem Hh.opn {s : St} (ok : Ok s) (h : Hh s) : Hh (opn s).1.2 ∧ (opn s).2.g ≤ 2147483647 := by
  unfold Lg.opn
  by_cases h1 : s.n / 2 < 2
  · rw [if_pos h1]; exact ⟨h, by show (0 : Nat) ≤ _; decide⟩
  · rw [if_neg h1]
    by_cases h2 : s.down = true
    · rw [if_pos h2]; exact ⟨h, by show (0 : Nat) ≤ _; decide⟩
    · rw [if_neg h2]
      by_cases h3 : (use s).2 = 0
      · rw [if_pos h3]
        have := h.bgn (h := 0) (g := 1) (by decide) (by decide) [] (by show 1 + 0 ≤ _; omega)
        rw [Nat.zero_mul] at this
        exact ⟨this, by show (1 : Nat) ≤ _; decide⟩
      · rw [if_neg h3]
        refine ⟨h.cln _ _, ?_⟩
        have e0 := (gen_same ok (h.sh (.inl rfl)) (H := s.n / 2) (by omega)).2
        have eH := (gen_same ok (h.sh (.inr rfl)) (H := s.n / 2) (by omega)).2
        show (use s).2 ≤ _
        unfold use
        split
        · exact eH
        · exact e0
end Go.Proofs.YtageoeogofeckaaGreatDoor
