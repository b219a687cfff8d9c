/- Parts: HE2, HK0. -/
import Derived.Test.YtckfplpiakbbdaaGreatDoorZaG31
import Derived.Test.YtckfplpiakbbdaaGreatDoorZaG26
namespace Go.Proofs.YtckfplpiakbbdaaGreatDoor
open Go.RowKit Go.Proofs.Fd Go.Proofs.Hs Go.Proofs.Cc Go.Proofs.Hd Go.Proofs.Rt
set_option maxRecDepth 20000
def KeysAt (w : World) (v : Value) (ss : List ByteArray) : Prop := ∃ a c, v = .slice a ss.length c ∧ ss.length ≤ c ∧ c ≤ 9223372036854775807 ∧ ∀ i, i < ss.length → ∃ b o, a = some ⟨b, o, none⟩
    ∧ w.cell? ⟨b, o + i * 5, none⟩ = some (.string (hdk (nth ss i) lFlow 32)) ∧ w.cell? ⟨b, o + i * 5 + 1, none⟩ = some (.string (hdk (nth ss i) lMac 32)) ∧ w.cell? ⟨b, o + i * 5 + 2, none⟩ = some (.string (hdk (nth ss i) lBody 32))
    ∧ w.cell? ⟨b, o + i * 5 + 3, none⟩ = some (.string (bld (nth ss i))) ∧ w.cell? ⟨b, o + i * 5 + 4, none⟩ = some (.string (hdk (nth ss i) lTag 16))
theorem KeysAt.later {w w' : World} {v : Value} {ss : List ByteArray} (h : KeysAt w v ss) (hb : Below w.heap.size w w') : KeysAt w' v ss := by
  obtain ⟨a, c, rfl, h1, h2, h3⟩ := h
  refine ⟨a, c, rfl, h1, h2, fun i hi => ?_⟩
  obtain ⟨b, o, ha, c0, c1, c2, c3, c4⟩ := h3 i hi
  exact ⟨b, o, ha, cell_later hb c0, cell_later hb c1, cell_later hb c2, cell_later hb c3, cell_later hb c4⟩
def mkE (seed : ByteArray) (pts : List ByteArray) (hs : List Hp) : Int :=
  if pth hs = 0 then (if pts.length = hs.length then (if seed.size = 32 ∧ (pts.all fun p => p.size == 32) = true then (match secs seed pts [] with | none => 20 | some _ => 0) else 3) else 4) else pth hs
def mkS (seed : ByteArray) (pts : List ByteArray) (hs : List Hp) : List ByteArray := if mkE seed pts hs = 0 then (secs seed pts []).getD [] else []
def mkH (seed : ByteArray) (pts : List ByteArray) (hs : List Hp) : ByteArray := if mkE seed pts hs = 0 then ⟨(hhead seed (mkS seed pts hs) hs 0).toArray⟩ else ⟨#[]⟩
def ofV (s : ByteArray) : Array Value := if s.size = 32 then #[kv s, .int .i64 0] else #[kz, .int .i64 3]
def OfC : Prop := ∀ (s : ByteArray) (w : World), Hid (s.size + 64 ≤ 140737488355328) → Hid (Kh w) →
    Calls Tryz.prog 9 #[.string s] w fun e w' => e = .returned (.tuple (ofV s)) ∧ Below w.heap.size w w'
def MakeC : Prop := ∀ (seed : ByteArray) (a : Option Addr) (pts : List ByteArray) (n cap : Nat) (b : Option Addr) (hs : List Hp) (m cap2 : Nat) (w : World), Hid (pts.length = n ∧ hs.length = m) → Hid (n * 16 ≤ 140737488351232 ∧ m * 48 ≤ 140737488351232) →
    Hid (seed.size + 64 ≤ 140737488355328) → Hid (∀ p ∈ pts, p.size ≤ 140737488355328) → Hid (∀ h ∈ hs, h.id.size ≤ 140737488355328) → Hid (Kh w) → Hid (StrAt w a pts) → Hid (HopsAt w b hs) →
    Calls Tryz.prog 12 #[.string seed, .slice a n cap, .slice b m cap2] w fun e w' => ∃ v, e = .returned (.tuple #[.string (mkH seed pts hs), v, .int .i64 (mkE seed pts hs)]) ∧ KeysAt w' v (mkS seed pts hs) ∧ Below w.heap.size w w'
def PeelC : Prop := ∀ (p h : ByteArray) (w : World), Hid (p.size ≤ 140737488355328) → Hid (h.size ≤ 140737488355328) → Hid (Kh w) →
    Calls Tryz.prog 14 #[.string p, .string h] w fun e w' => e = .returned (.tuple (plV p h)) ∧ Below w.heap.size w w'
theorem hdk_size (s : ByteArray) (l : List UInt8) (n : Nat) : (hdk s l n).size = n := by
  show (drv s.data.toList l n).toArray.size = n
  unfold drv
  simp [xpn_len]
theorem hops_one (w : World) (t : TypeId) (x : Hp) (g : Nat) (hg : g = w.heap.size) : HopsAt (w.alloc (.cells #[.int .i64 x.k, .int .i64 x.n, .int .i64 x.u, .int .i64 x.d, .string x.id] t)) (some ⟨g, 0, none⟩) [x] := fun i hi => by
  subst hg
  obtain rfl : i = 0 := by simp at hi; omega
  exact ⟨w.heap.size, 0, rfl, by simp [go_sem], by simp [go_sem], by simp [go_sem], by simp [go_sem], by simp [go_sem]⟩
theorem made_pub (seed : ByteArray) (ks : List ByteArray) (hs : List Hp) (hz : seed.size = 32) (hk : ∀ k ∈ ks, k.size = 32) (hp : pth hs = 0) (hl : hs.length = ks.length) :
    ∃ ss, ss.length = ks.length ∧ mkE seed (ks.map fun k => Crv.ek (Crv.pub k)) hs = 0 ∧ mkS seed (ks.map fun k => Crv.ek (Crv.pub k)) hs = ss ∧ mkH seed (ks.map fun k => Crv.ek (Crv.pub k)) hs = ⟨(hhead seed ss hs 0).toArray⟩
      ∧ ∀ i (hi : i < ks.length), plV ks[i] ⟨(hhead seed ss hs i).toArray⟩ = #[hv (hs.getD i zh), .string (if i + 1 < ks.length then ⟨(hhead seed ss hs (i + 1)).toArray⟩ else ⟨#[]⟩), kv (nth ss i), .int .i64 0] ∧ (hhead seed ss hs i).length = 248 := by
  obtain ⟨ss, h1, h2, h3⟩ := peel_whole seed ks hs hk hp hl
  have e : mkE seed (ks.map fun k => Crv.ek (Crv.pub k)) hs = 0 := by
    have ha : ((ks.map fun k => Crv.ek (Crv.pub k)).all fun p => p.size == 32) = true := by
      rw [List.all_eq_true]
      intro x hx
      obtain ⟨k, -, rfl⟩ := List.mem_map.1 hx
      simp [Crv.ek_size]
    unfold mkE
    rw [if_pos hp, if_pos (by rw [List.length_map]; exact hl.symm), if_pos ⟨hz, ha⟩, h1]
  have es : mkS seed (ks.map fun k => Crv.ek (Crv.pub k)) hs = ss := by unfold mkS; rw [if_pos e, h1]; rfl
  exact ⟨ss, h2, e, es, by unfold mkH; rw [if_pos e, es], h3⟩
set_option maxHeartbeats 1000000 in
theorem works8_any (CM : Hid MakeC) (CL : Hid PeelC) (w : World) (hK : Hid (Kh w)) :
    Calls Tryz.prog 10 #[] w fun e w' => e = .returned (.bool true) ∧ Below w.heap.size w w' := by
  obtain ⟨SD, hSD⟩ : ∃ S : ByteArray, pv ⟨#[115, 101, 101, 100]⟩ 0 = S := ⟨_, rfl⟩
  obtain ⟨PA, hPA⟩ : ∃ S : ByteArray, pv ⟨#[97]⟩ 0 = S := ⟨_, rfl⟩
  obtain ⟨QA, hQA⟩ : ∃ S : ByteArray, pp ⟨#[97]⟩ 0 = S := ⟨_, rfl⟩
  have V1 : Hid (∀ w, Kh w → Calls Tryz.prog 16 #[.string ⟨#[115, 101, 101, 100]⟩, .int .i64 0] w fun e w' => e = .returned (.string SD) ∧ Below w.heap.size w w') := fun w h => by
    rw [← hSD]; exact private_any _ 0 (by decide) (by show (4 : Nat) + 64 ≤ _; decide) w h
  have V2 : Hid (∀ w, Kh w → Calls Tryz.prog 16 #[.string ⟨#[97]⟩, .int .i64 0] w fun e w' => e = .returned (.string PA) ∧ Below w.heap.size w w') := fun w h => by
    rw [← hPA]; exact private_any _ 0 (by decide) (by show (1 : Nat) + 64 ≤ _; decide) w h
  have V3 : Hid (∀ w, Kh w → Calls Tryz.prog 17 #[.string ⟨#[97]⟩, .int .i64 0] w fun e w' => e = .returned (.string QA) ∧ Below w.heap.size w w') := fun w h => by
    rw [← hQA]; exact public_any _ 0 (by decide) (by show (1 : Nat) + 64 ≤ _; decide) w h
  have zS : SD.size = 32 := by rw [← hSD]; exact pv_size _ _
  have zP : PA.size = 32 := by rw [← hPA]; exact pv_size _ _
  have eQ : QA = Crv.ek (Crv.pub PA) := by rw [← hQA, ← hPA]; rfl
  obtain ⟨ss, s1, s2, s3, s4, s5⟩ := made_pub SD [PA] [⟨4, 0, 0, 0, ⟨#[]⟩⟩] zS (fun k hk => by simp at hk; subst hk; exact zP) (by decide) rfl
  obtain ⟨p1, p2⟩ := s5 0 (by simp)
  rw [List.map_cons, List.map_nil, ← eQ] at s2 s3 s4
  obtain ⟨HD, hHD⟩ : ∃ H : ByteArray, ⟨(hhead SD ss [⟨4, 0, 0, 0, ⟨#[]⟩⟩] 0).toArray⟩ = H := ⟨_, rfl⟩
  rw [hHD] at s4 p1
  have zH : HD.size = 248 := by rw [← hHD]; show (hhead SD ss [⟨4, 0, 0, 0, ⟨#[]⟩⟩] 0).toArray.size = 248; simpa using p2
  have M1 : Hid (∀ (A B : Nat) (w : World), Kh w → w.cell? ⟨A, 0, none⟩ = some (.string QA) → HopsAt w (some ⟨B, 0, none⟩) [⟨4, 0, 0, 0, ⟨#[]⟩⟩] → Calls Tryz.prog 12 #[.string SD, .slice (some ⟨A, 0, none⟩) 1 1, .slice (some ⟨B, 0, none⟩) 1 1] w fun e w' => ∃ v, e = .returned (.tuple #[.string HD, v, .int .i64 0]) ∧ KeysAt w' v ss ∧ Below w.heap.size w w') := fun A B w h h0 h1 => by
    have := CM.out SD (some ⟨A, 0, none⟩) [QA] 1 1 (some ⟨B, 0, none⟩) [⟨4, 0, 0, 0, ⟨#[]⟩⟩] 1 1 w ⟨rfl, rfl⟩ (by show (1 : Nat) * 16 ≤ _ ∧ (1 : Nat) * 48 ≤ _; decide) (by show SD.size + 64 ≤ _; omega) (fun p hp => by
      simp at hp; subst hp; rw [eQ, Crv.ek_size]; decide) (fun x hx => by
      simp at hx; subst hx; show (0 : Nat) ≤ _; decide) h (strAt1 h0) h1
    rw [s2, s3, s4] at this
    exact this
  have L1 : Hid (∀ w, Kh w → Calls Tryz.prog 14 #[.string PA, .string HD] w fun e w' => e = .returned (.tuple #[.agg #[.int .i64 4, .int .i64 0, .int .i64 0, .int .i64 0, .string ⟨#[]⟩], .string ⟨#[]⟩, kv (nth ss 0), .int .i64 0]) ∧ Below w.heap.size w w') := fun w h => by
    have := CL.out PA HD w (by show PA.size ≤ _; omega) (by show HD.size ≤ _; omega) h
    have e : plV PA HD = #[.agg #[.int .i64 4, .int .i64 0, .int .i64 0, .int .i64 0, .string ⟨#[]⟩], .string ⟨#[]⟩, kv (nth ss 0), .int .i64 0] := p1
    rw [e] at this
    exact this
  obtain ⟨k0, hk0⟩ : ∃ k : ByteArray, hdk (nth ss 0) lFlow 32 = k := ⟨_, rfl⟩
  obtain ⟨k1, hk1⟩ : ∃ k : ByteArray, hdk (nth ss 0) lMac 32 = k := ⟨_, rfl⟩
  obtain ⟨k2, hk2⟩ : ∃ k : ByteArray, hdk (nth ss 0) lBody 32 = k := ⟨_, rfl⟩
  obtain ⟨k3, hk3⟩ : ∃ k : ByteArray, bld (nth ss 0) = k := ⟨_, rfl⟩
  obtain ⟨k4, hk4⟩ : ∃ k : ByteArray, hdk (nth ss 0) lTag 16 = k := ⟨_, rfl⟩
  have zt : k4.size = 16 := by rw [← hk4]; exact hdk_size _ _ _
  unfold kv at L1
  rw [hk0, hk1, hk2, hk3, hk4] at L1
  have M2 : Hid (∀ (A B : Nat) (w : World), Kh w → w.cell? ⟨A, 0, none⟩ = some (.string QA) → HopsAt w (some ⟨B, 0, none⟩) [⟨4, 0, 0, 0, ⟨#[]⟩⟩] → Calls Tryz.prog 12 #[.string SD, .slice (some ⟨A, 0, none⟩) 1 1, .slice (some ⟨B, 0, none⟩) 1 1] w fun e w' => ∃ b o c, e = .returned (.tuple #[.string HD, .slice (some ⟨b, o, none⟩) 1 c, .int .i64 0])
      ∧ w'.cell? ⟨b, o, none⟩ = some (.string k0) ∧ w'.cell? ⟨b, o + 1, none⟩ = some (.string k1) ∧ w'.cell? ⟨b, o + 2, none⟩ = some (.string k2) ∧ w'.cell? ⟨b, o + 3, none⟩ = some (.string k3) ∧ w'.cell? ⟨b, o + 4, none⟩ = some (.string k4) ∧ Below w.heap.size w w') := fun A B w h h0 h1 => by
    refine Calls.mono (M1.out A B w h h0 h1) ?_
    rintro e w' ⟨v, rfl, ⟨a, c, rfl, hc, -, hA⟩, hb⟩
    have s1' : ss.length = 1 := s1
    obtain ⟨b, o, rfl, c0, c1, c2, c3, c4⟩ := hA 0 (by omega)
    rw [hk0] at c0; rw [hk1] at c1; rw [hk2] at c2; rw [hk3] at c3; rw [hk4] at c4
    rw [s1']
    exact ⟨b, o, c, rfl, by simpa using c0, by simpa using c1, by simpa using c2, by simpa using c3, by simpa using c4, hb⟩
  clear CM CL s1 s2 s3 s4 s5 p1 p2 hHD M1 hk0 hk1 hk2 hk3 hk4 hSD hPA hQA eQ
  go_enter Tryz.func10, Tryz.ntmps10
  go_wp2_with fail
  refine Calls.mono (V1.out _ hK.out) ?_
  rintro e w1 ⟨rfl, hb1⟩
  have B1 : Hid (Below w.heap.size w w1) := hb1
  have K1 : Hid (Kh w1) := hK.out.later hb1
  clear hb1 V1 hK
  go_wp2_with fail
  refine Calls.mono (V3.out _ K1.out) ?_
  rintro e w2 ⟨rfl, hb2⟩
  have B2 : Hid (Below w.heap.size w w2) := chain B1.out hb2
  have K2 : Hid (Kh w2) := K1.out.later hb2
  clear hb2 V3 K1 B1
  go_wp2_with fail
  have HP : HopsAt ((w2.alloc (.cells #[.string QA] 9)).alloc (.cells #[.int .i64 4, .int .i64 0, .int .i64 0, .int .i64 0, .string ⟨#[]⟩] 37)) (some ⟨w2.heap.size + 1, 0, none⟩) [⟨4, 0, 0, 0, ⟨#[]⟩⟩] := hops_one (w2.alloc (.cells #[.string QA] 9)) 37 ⟨4, 0, 0, 0, ⟨#[]⟩⟩ _ (by simp [go_sem])
  refine Calls.mono (M2.out _ _ _ ((K2.out.alloc _).alloc _) (by simp [go_sem]) HP) ?_
  rintro e w3 ⟨b, o, c, rfl, c0, c1, c2, c3, c4, hb3⟩
  have B3 : Hid (Below w.heap.size w w3) := chain (chain B2.out (((Below.refl _ _).alloc (Nat.le_refl _) _).alloc (by simp [go_sem]) _)) hb3
  have K3 : Hid (Kh w3) := ((K2.out.alloc _).alloc _).later hb3
  clear hb3 M2 HP K2 B2
  go_wp2_with fail
  refine Calls.mono (V2.out _ K3.out) ?_
  rintro e w4 ⟨rfl, hb4⟩
  replace c0 := cell_later hb4 c0
  replace c1 := cell_later hb4 c1
  replace c2 := cell_later hb4 c2
  replace c3 := cell_later hb4 c3
  replace c4 := cell_later hb4 c4
  have B4 : Hid (Below w.heap.size w w4) := chain B3.out hb4
  have K4 : Hid (Kh w4) := K3.out.later hb4
  clear hb4 V2 K3 B3
  go_wp2_with fail
  refine Calls.mono (L1.out _ K4.out) ?_
  rintro e w5 ⟨rfl, hb5⟩
  replace c0 := cell_later hb5 c0
  replace c1 := cell_later hb5 c1
  replace c2 := cell_later hb5 c2
  replace c3 := cell_later hb5 c3
  replace c4 := cell_later hb5 c4
  have B5 : Hid (Below w.heap.size w w5) := chain B4.out hb5
  clear hb5 L1 K4 B4
  go_wp2_with fail
  obtain ⟨G, hG⟩ : ∃ G : Nat, w5.heap.size = G := ⟨_, rfl⟩
  have HB : Below w5.heap.size w5 ((w5.alloc (.cells #[.int .i64 4, .int .i64 0, .int .i64 0, .int .i64 0, .string ⟨#[]⟩] 37)).alloc (.cells #[.string k0, .string k1, .string k2, .string k3, .string k4] 23)) := ((Below.refl _ _).alloc (Nat.le_refl _) _).alloc (by simp [go_sem]) _
  obtain ⟨W, hW⟩ : ∃ W : World, (w5.alloc (.cells #[.int .i64 4, .int .i64 0, .int .i64 0, .int .i64 0, .string ⟨#[]⟩] 37)).alloc (.cells #[.string k0, .string k1, .string k2, .string k3, .string k4] 23) = W := ⟨_, rfl⟩
  have d0 : W.cell? ⟨G, 0, none⟩ = some (.int .i64 4) := by rw [← hW, ← hG]; simp [go_sem]
  have d1 : W.cell? ⟨G, 1, none⟩ = some (.int .i64 0) := by rw [← hW, ← hG]; simp [go_sem]
  have d2 : W.cell? ⟨G, 2, none⟩ = some (.int .i64 0) := by rw [← hW, ← hG]; simp [go_sem]
  have d3 : W.cell? ⟨G, 3, none⟩ = some (.int .i64 0) := by rw [← hW, ← hG]; simp [go_sem]
  have d4 : W.cell? ⟨G, 4, none⟩ = some (.string ⟨#[]⟩) := by rw [← hW, ← hG]; simp [go_sem]
  have f0 : W.cell? ⟨G + 1, 0, none⟩ = some (.string k0) := by rw [← hW, ← hG]; simp [go_sem]
  have f1 : W.cell? ⟨G + 1, 1, none⟩ = some (.string k1) := by rw [← hW, ← hG]; simp [go_sem]
  have f2 : W.cell? ⟨G + 1, 2, none⟩ = some (.string k2) := by rw [← hW, ← hG]; simp [go_sem]
  have f3 : W.cell? ⟨G + 1, 3, none⟩ = some (.string k3) := by rw [← hW, ← hG]; simp [go_sem]
  have f4 : W.cell? ⟨G + 1, 4, none⟩ = some (.string k4) := by rw [← hW, ← hG]; simp [go_sem]
  replace c0 := cell_later HB c0
  replace c1 := cell_later HB c1
  replace c2 := cell_later HB c2
  replace c3 := cell_later HB c3
  replace c4 := cell_later HB c4
  have B6 : Hid (Below w.heap.size w W) := by rw [← hW]; exact chain B5.out HB
  clear HB B5
  rw [hW] at c0 c1 c2 c3 c4
  rw [hW, hG]
  clear hW hG
  have I0 : (k0.toList == k0.toList) = true := by simp
  have I1 : (k1.toList == k1.toList) = true := by simp
  have I2 : (k2.toList == k2.toList) = true := by simp
  have I3 : (k3.toList == k3.toList) = true := by simp
  have I4 : (k4.toList == k4.toList) = true := by simp
  go_quiet (fail)
  have BN : Hid (Below w.heap.size w (W.drewN nq)) := below_drewN B6.out nq
  clear c0 c1 c2 c3 c4 d0 d1 d2 d3 d4 f0 f1 f2 f3 f4
  go_wp2
  go_ret
  exact ⟨rfl, BN.out⟩
end Go.Proofs.YtckfplpiakbbdaaGreatDoor
namespace Go.Proofs.YtckfplpiakbbdaaGreatDoor
open Go.RowKit Go.Proofs.Fd
set_option maxRecDepth 20000
theorem exec_neq_keys (ρ : Operand → Value) (oi : Oper) (x y : Operand) (k0 k1 k2 k3 k4 : ByteArray) (hop : oi.op = .binOp .neq 23 x y 23)
    (hx : ρ x = .agg #[.string k0, .string k1, .string k2, .string k3, .string k4]) (hy : ρ y = .agg #[.string k0, .string k1, .string k2, .string k3, .string k4]) (w : World) :
    (execOp ρ oi).run Tryz.prog w = .ok (.value (.bool false)) w := by
  have Ik0 : (k0.toList == k0.toList) = true := by simp
  have Ik1 : (k1.toList == k1.toList) = true := by simp
  have Ik2 : (k2.toList == k2.toList) = true := by simp
  have Ik3 : (k3.toList == k3.toList) = true := by simp
  have Ik4 : (k4.toList == k4.toList) = true := by simp
  unfold execOp
  rw [hop]
  simp only [hx, hy]
  go_simp
theorem exec_eq_keys (ρ : Operand → Value) (oi : Oper) (x y : Operand) (k0 k1 k2 k3 k4 : ByteArray) (hop : oi.op = .binOp .eql 23 x y 23)
    (hx : ρ x = .agg #[.string k0, .string k1, .string k2, .string k3, .string k4]) (hy : ρ y = .agg #[.string k0, .string k1, .string k2, .string k3, .string k4]) (w : World) :
    (execOp ρ oi).run Tryz.prog w = .ok (.value (.bool true)) w := by
  have Ik0 : (k0.toList == k0.toList) = true := by simp
  have Ik1 : (k1.toList == k1.toList) = true := by simp
  have Ik2 : (k2.toList == k2.toList) = true := by simp
  have Ik3 : (k3.toList == k3.toList) = true := by simp
  have Ik4 : (k4.toList == k4.toList) = true := by simp
  unfold execOp
  rw [hop]
  simp only [hx, hy]
  go_simp
end Go.Proofs.YtckfplpiakbbdaaGreatDoor
