/- Parts: HP1, HP3, HP6, PkH, PkP0. -/
import Derived.Test.YtgnkkjknngblbaaGreatDoorZpG32
import Derived.Test.YtgnkkjknngblbaaGreatDoorZpG28
import Derived.Deep.RegionHeld3
namespace Go.Proofs.YtgnkkjknngblbaaGreatDoor
open Go.RowKit Go.Proofs.Fd Go.Proofs.Hs Go.Proofs.Cc Go.Proofs.Hd Go.Proofs.Rt
set_option maxRecDepth 20000
theorem hdk_data (s : ByteArray) (l : List UInt8) (n : Nat) : (hdk s l n).data.toList = drv s.data.toList l n := by unfold hdk; simp
theorem rep_zero (n : Nat) : Lib.repeatL [0] n = List.replicate n 0 := by
  induction n with
  | zero => rfl
  | succ n ih => rw [Lib.repeatL, ih]; rfl
set_option maxHeartbeats 1000000 in
theorem zeros_any (n : Nat) (h2 : 2 ≤ n) (hn : n ≤ 1000) (w : World) :
    Calls Tryz.prog 53 #[.int .i64 (n : Int)] w fun e w' => e = .returned (.string (zba n)) ∧ Below w.heap.size w w' := by
  have RE : Hid (∀ w, Calls Tryz.prog 81 #[.string ⟨#[0]⟩, .int .i64 (n : Int)] w fun e w' => e = .returned (.string (zba n)) ∧ Below w.heap.size w w') := fun w => by
    have h := Any.strings_Repeat_main repLies repMore ⟨#[0]⟩ n w h2 (by omega) (by show 1 * n ≤ _; omega) (by decide)
    have e : (⟨#[0]⟩ : ByteArray).data.toList = [0] := rfl
    rw [e, rep_zero] at h
    exact h
  generalize zba n = Z at *
  clear h2 hn
  go_enter Tryz.func53, Tryz.ntmps53
  go_wp2_with fail
  refine Calls.mono (RE.out _) ?_
  rintro e w1 ⟨rfl, hb1⟩
  have B1 : Hid (Below w.heap.size w w1) := hb1
  clear hb1 RE
  go_wp2
  go_ret
  exact ⟨rfl, B1.out⟩
set_option maxHeartbeats 1000000 in
theorem hderived_any (s : ByteArray) (l : List UInt8) (n : Nat) (hn : n ≤ 255) (hl : l.length ≤ 100) (hs : Hid (s.size + 64 ≤ 140737488355328)) (w : World) (hK : Hid (Kh w)) :
    Calls Tryz.prog 78 #[.agg #[.string s], .string ⟨l.toArray⟩, .int .i64 (n : Int)] w fun e w' => e = .returned (.string (hdk s l n)) ∧ Below w.heap.size w w' := by
  obtain ⟨Lb, hLb⟩ : ∃ L : ByteArray, ⟨l.toArray⟩ = L := ⟨_, rfl⟩
  have DV : Hid (∀ w, Kh w → Calls Tryz.prog 27 #[.string s, .string Lb, .int .i64 (n : Int)] w fun e w' => e = .returned (.tuple #[.string (hdk s l n), .int .i64 0]) ∧ Below w.heap.size w w') := fun w h => by
    have := derive_c s Lb n w hs (by rw [← hLb]; show (⟨l.toArray⟩ : ByteArray).size + 97 ≤ _; rw [ba_sz]; omega) h
    unfold drV at this
    rw [if_neg (by omega)] at this
    rw [← hLb] at this ⊢
    exact this
  rw [hLb]
  generalize hdk s l n = X at *
  clear hLb hn
  go_enter Tryz.func78, Tryz.ntmps78
  go_wp2_with fail
  refine Calls.mono (DV.out _ (hK.out.alloc _)) ?_
  rintro e w1 ⟨rfl, hb1⟩
  have B1 : Hid (Below w.heap.size w w1) := chain ((Below.refl _ _).alloc (Nat.le_refl _) _) hb1
  clear hb1 DV
  go_wp2
  go_ret
  exact ⟨rfl, B1.out⟩
set_option maxHeartbeats 1000000 in
theorem padOf_any (s : ByteArray) (hs : Hid (s.size + 64 ≤ 140737488355328)) (w : World) (hK : Hid (Kh w)) :
    Calls Tryz.prog 67 #[.string s] w fun e w' => e = .returned (.string (hdk s lPad 200)) ∧ Below w.heap.size w w' := by
  have DV : Hid (∀ w, Kh w → Calls Tryz.prog 78 #[.agg #[.string s], .string ⟨#[112, 97, 100]⟩, .int .i64 200] w fun e w' => e = .returned (.string (hdk s lPad 200)) ∧ Below w.heap.size w w') := fun w h => hderived_any s lPad 200 (by decide) (by decide) hs w h
  generalize hdk s lPad 200 = X at *
  go_enter Tryz.func67, Tryz.ntmps67
  go_wp2_with fail
  refine Calls.mono (DV.out _ hK.out) ?_
  rintro e w1 ⟨rfl, hb1⟩
  have B1 : Hid (Below w.heap.size w w1) := hb1
  clear hb1 DV
  go_wp2
  go_ret
  exact ⟨rfl, B1.out⟩
set_option maxHeartbeats 1000000 in
theorem hturned_any (s t : ByteArray) (ht : t.size ≤ 240) (w : World) :
    Calls Tryz.prog 52 #[hk6 s, .string t] w fun e w' => e = .returned (.string (htn s t)) ∧ Below w.heap.size w w' := by
  have ZE : Hid (∀ w, Calls Tryz.prog 53 #[.int .i64 12] w fun e w' => e = .returned (.string (zba 12)) ∧ Below w.heap.size w w') := fun w => zeros_any 12 (by decide) (by decide) w
  have SX : Hid (∀ w, Calls Tryz.prog 80 #[.string (hdk s lFlow 32), .string (zba 12), .int .i64 0, .string t] w fun e w' => e = .returned (.tuple #[.string (htn s t), .int .i64 0]) ∧ Below w.heap.size w w') := fun w => by
    have h := sXor_ok (hdk s lFlow 32) (zba 12) 0 t (hdk_size _ _ _) (zba_size _) (by omega) w
    rw [htn_is s t ht] at h
    exact h
  unfold hk6
  generalize htn s t = Y at *
  generalize hdk s lFlow 32 = k1 at *
  generalize hdk s lMac 32 = k2 at *
  generalize hdk s lBody 32 = k3 at *
  generalize bld s = k4 at *
  generalize hdk s lTag 16 = k5 at *
  generalize zba 12 = Z at *
  clear ht
  go_enter Tryz.func52, Tryz.ntmps52
  go_wp2
  obtain ⟨A, hA⟩ : ∃ A, w.alloc (.cells #[.string s, .string k1, .string k2, .string k3, .string k4, .string k5] 70) = A := ⟨_, rfl⟩
  have I : Hid (Six A w.heap.size s k1 k2 k3 k4 k5 ∧ Below w.heap.size w A) := by
    rw [← hA]
    exact ⟨Six.new _ _ _ _ _ _ _ _, (Below.refl _ _).alloc (Nat.le_refl _) _⟩
  rw [hA]
  clear hA
  have c1 := I.out.1.2.2.1
  have J : Hid (Six A.drew w.heap.size s k1 k2 k3 k4 k5 ∧ Below w.heap.size w A.drew) := ⟨I.out.1, I.out.2.drew⟩
  clear I
  go_region_with (first | (go_at_call 53; refine Calls.mono (ZE.out _) ?_; rintro e w1 ⟨rfl, hb1⟩; have H1 : Hid (Six w1 w.heap.size s k1 k2 k3 k4 k5 ∧ Below w.heap.size w w1) := ⟨J.out.1.later hb1, chain J.out.2 hb1⟩; have c11 := H1.out.1.2.2.1) | (go_at_call 80; refine Calls.mono (SX.out _) ?_; rintro e w2 ⟨rfl, hb2⟩; have B2 : Hid (Below w.heap.size w w2) := chain H1.out.2 hb2))
  all_goals
    go_wp2
    go_ret
    exact ⟨rfl, B2.out⟩
set_option maxHeartbeats 1000000 in
theorem macOf_any (s l : ByteArray) (hl : l.size ≤ 140737488355328) (w : World) (hK : Hid (Kh w)) :
    Calls Tryz.prog 51 #[hk6 s, .string l] w fun e w' => e = .returned (.string (hmb s l)) ∧ Below w.heap.size w w' := by
  obtain ⟨X, hX⟩ : ∃ X : ByteArray, ⟨(hmac (hdk s lMac 32).data.toList l.data.toList).toArray⟩ = X := ⟨_, rfl⟩
  have zX : X.size = 32 := by rw [← hX, ba_sz, hmac_len]
  have eX : Hid (hmb s l = X.extract 0 16) := by
    show _ = _
    have : (X.extract 0 16).data.toList = hmacf s l.data.toList := by
      rw [← hX, ba_cut, List.drop_zero, hdk_data]
      unfold hmacf
      with_reducible rfl
    unfold hmb
    exact (ba_of this).symm
  have TG : Hid (∀ (B : Nat) (w : World), Kh w → w.cell? ⟨B, 0, none⟩ = some (.string l) → Calls Tryz.prog 79 #[.string (hdk s lMac 32), .slice (some ⟨B, 0, none⟩) 1 1] w fun e w' => e = .returned (.string X) ∧ Below w.heap.size w w') := fun B w h h0 => by
    have := tag_c (hdk s lMac 32) (some ⟨B, 0, none⟩) [l] 1 1 w rfl (by show (1 : Nat) * 16 + 1024 ≤ _; decide) (by show (hdk s lMac 32).size ≤ _; rw [hdk_size]; decide) (fun x hx => by simp at hx; subst hx; exact hl) h (strAt1 h0)
    rw [jnd_one, hX] at this
    exact this
  rw [eX.out]
  unfold hk6
  generalize hdk s lFlow 32 = k1 at *
  generalize hdk s lMac 32 = k2 at *
  generalize hdk s lBody 32 = k3 at *
  generalize bld s = k4 at *
  generalize hdk s lTag 16 = k5 at *
  have zXi : (X.size : Int) = 32 := by omega
  clear hl hX eX
  go_enter Tryz.func51, Tryz.ntmps51
  go_wp2_with fail
  refine Calls.mono (TG.out _ _ ((hK.out.alloc _).alloc _) (by simp [go_sem])) ?_
  rintro e w1 ⟨rfl, hb1⟩
  have B1 : Hid (Below w.heap.size w w1) := chain (((Below.refl _ _).alloc (Nat.le_refl _) _).alloc (by simp [go_sem]) _) hb1
  clear hb1 TG
  go_wp2
  go_ret
  exact ⟨rfl, B1.out⟩
set_option maxHeartbeats 1000000 in
theorem hwhole_any (a : Option Addr) (ss : List ByteArray) (n cap : Nat) (hn : Hid (ss.length = n)) (hm : n ≤ 9223372036854775807) (w : World) (hc : Hid (StrAt w a ss)) :
    Calls Tryz.prog 47 #[.slice a n cap] w fun e w' => e = .returned (.bool (Crv.wh ss)) ∧ Below w.heap.size w w' := by
  go_enter Tryz.func47, Tryz.ntmps47
  go_wp2
  go_loopw [7] (fun i wr => ∃ k : Nat, k ≤ n ∧ i = .int .i64 k ∧ Hid (Crv.wh (ss.take k) = true ∧ Below w.heap.size w wr)) (fun i _ => n - (intOf i).toNat)
  case atStart => exact ⟨0, Nat.zero_le _, rfl, rfl, Below.refl _ _⟩
  case round =>
    obtain ⟨k, hk, rfl, I⟩ := hrel
    by_cases hlt : k < n
    · have hk' : k < ss.length := by have := hn.out; omega
      obtain ⟨b, o, rfl, hcell⟩ := StrAt.later hc.out I.out.2 rfl k hk'
      have HT : Hid (ss[k].size = 32 → Crv.wh (ss.take (k + 1)) = true) := fun h => Crv.wh_take hk' I.out.1 h
      have HN : Hid (¬ ss[k].size = 32 → Crv.wh ss = false) := fun h => Crv.wh_not hk' h
      generalize ss[k] = s at *
      by_cases h0 : s.size = 32
      · have hz : ((s.size : Int) != 32) = false := by simp [h0]
        have fin := HT.out h0
        have FIN : Hid (Crv.wh (ss.take (k + 1)) = true) := fin
        clear fin h0
        go_wp2
        go_roundw
        case rel => exact ⟨k + 1, by omega, by go_num, FIN.out, I.out.2⟩
        case measure => simp [intOf]; omega
      · have hz : ((s.size : Int) != 32) = true := by simp; omega
        have FIN : Hid (Crv.wh ss = false) := HN.out h0
        clear h0
        go_wp2
        go_ret
        exact ⟨Crv.ret_bool FIN.out.symm, I.out.2⟩
    · have hkn : k = n := by omega
      subst hkn
      have CA : Hid (Crv.wh ss = true) := by
        have := I.out.1; rw [List.take_of_length_le (by have := hn.out; omega)] at this; exact this
      go_wp2
      go_ret
      exact ⟨Crv.ret_bool CA.out.symm, I.out.2⟩
theorem hwhole1_any (s : ByteArray) (B : Nat) (w : World) (h0 : w.cell? ⟨B, 0, none⟩ = some (.string s)) :
    Calls Tryz.prog 47 #[.slice (some ⟨B, 0, none⟩) 1 1] w fun e w' => e = .returned (.bool (decide (s.size = 32))) ∧ Below w.heap.size w w' := by
  have := hwhole_any (some ⟨B, 0, none⟩) [s] 1 1 rfl (by omega) w (strAt1 h0)
  have e : Crv.wh [s] = decide (s.size = 32) := by simp [Crv.wh]
  rw [e] at this
  exact this
end Go.Proofs.YtgnkkjknngblbaaGreatDoor
namespace Go.Proofs.YtgnkkjknngblbaaGreatDoor
open Go.RowKit Go.Proofs.Fd Go.Proofs.Hs Go.Proofs.Cc Go.Proofs.Hd Go.Proofs.Rt
set_option maxRecDepth 20000
def HksAt (w : World) (a : Option Addr) (ss : List ByteArray) : Prop := ∀ i, i < ss.length → ∃ b o, a = some ⟨b, o, none⟩
    ∧ w.cell? ⟨b, o + i * 6, none⟩ = some (.string (nth ss i)) ∧ w.cell? ⟨b, o + i * 6 + 1, none⟩ = some (.string (hdk (nth ss i) lFlow 32)) ∧ w.cell? ⟨b, o + i * 6 + 2, none⟩ = some (.string (hdk (nth ss i) lMac 32)) ∧ w.cell? ⟨b, o + i * 6 + 3, none⟩ = some (.string (hdk (nth ss i) lBody 32))
    ∧ w.cell? ⟨b, o + i * 6 + 4, none⟩ = some (.string (bld (nth ss i))) ∧ w.cell? ⟨b, o + i * 6 + 5, none⟩ = some (.string (hdk (nth ss i) lTag 16))
theorem HksAt.later {w w' : World} {a : Option Addr} {ss : List ByteArray} (h : HksAt w a ss) (hb : Below w.heap.size w w') : HksAt w' a ss := fun i hi => by
  obtain ⟨b, o, ha, c0, c1, c2, c3, c4, c5⟩ := h i hi
  exact ⟨b, o, ha, cell_later hb c0, cell_later hb c1, cell_later hb c2, cell_later hb c3, cell_later hb c4, cell_later hb c5⟩
theorem ba_app (a b : ByteArray) : (a ++ b).data.toList = a.data.toList ++ b.data.toList := by simp
theorem ba_add (a b : ByteArray) : (a ++ b).size = a.size + b.size := by simp
def fbs (ss : List ByteArray) (i : Nat) : ByteArray := ⟨(fil (fun i => hflow (nth ss i)) i).toArray⟩
theorem fbs_size (ss : List ByteArray) (i : Nat) (hi : i ≤ 6) : (fbs ss i).size = 40 * i := by
  unfold fbs; rw [ba_sz, fil_len _ (fun _ => hflow_len _) i hi]
theorem fbs_step (ss : List ByteArray) (i m : Nat) (hi : i ≤ 4) (hm : m + 40 * (i + 1) = 240) : (htn (nth ss i) (zba m ++ (fbs ss i ++ zba 40))).extract m 240 = fbs ss (i + 1) := by
  have hl : (fil (fun i => hflow (nth ss i)) i).length = 40 * i := fil_len _ (fun _ => hflow_len _) i (by omega)
  have e : ((htn (nth ss i) (zba m ++ (fbs ss i ++ zba 40))).extract m 240).data.toList = fil (fun i => hflow (nth ss i)) (i + 1) := by
    unfold htn
    rw [ba_cut, xorl_dp, ba_app, zba_data, List.drop_append_of_le_length (by rw [List.length_replicate]; exact Nat.le_refl _), List.drop_of_length_le (by rw [List.length_replicate]; exact Nat.le_refl _), List.nil_append, ba_app, zba_data, fil_succ, show 240 - 40 * (i + 1) = m by omega]
    have eq : (fbs ss i).data.toList = fil (fun i => hflow (nth ss i)) i := rfl
    rw [eq]
    apply List.take_of_length_le
    rw [xorl_len _ _ (by rw [List.length_append, hl, List.length_replicate, List.length_drop, hflow_len]; omega), List.length_append, hl, List.length_replicate]
    omega
  exact ba_of e
set_option maxHeartbeats 1000000 in
theorem filler_any (a : Option Addr) (ss : List ByteArray) (n cap : Nat) (hn : Hid (n ≤ ss.length)) (h4 : n ≤ 4) (w : World) (hc : Hid (HksAt w a ss)) :
    Calls Tryz.prog 68 #[.slice a n cap] w fun e w' => e = .returned (.string (fbs ss n)) ∧ Below w.heap.size w w' := by
  have Z40 : Hid (∀ w, Calls Tryz.prog 53 #[.int .i64 40] w fun e w' => e = .returned (.string (zba 40)) ∧ Below w.heap.size w w') := fun w => zeros_any 40 (by decide) (by decide) w
  go_enter Tryz.func68, Tryz.ntmps68
  go_wp2_with fail
  go_loopw [3, 9] (fun fv iv wr => ∃ k : Nat, k ≤ n ∧ iv = .int .i64 (k : Int) ∧ fv = .string (fbs ss k) ∧ Hid (Below w.heap.size w wr)) (fun _ iv _ => n - (intOf iv).toNat)
  case atStart => exact ⟨0, Nat.zero_le _, rfl, rfl, Below.refl _ _⟩
  case round =>
    obtain ⟨k, hk, rfl, rfl, I⟩ := hrel
    by_cases hlt : k < n
    · have g1 : (k : Int) < (n : Int) := by omega
      obtain ⟨b, o, rfl, c0, c1, c2, c3, c4, c5⟩ := HksAt.later hc.out I.out k (by have := hn.out; omega)
      obtain ⟨m, hm⟩ : ∃ m, m + 40 * (k + 1) = 240 := ⟨200 - 40 * k, by omega⟩
      obtain ⟨G, hG⟩ : ∃ G : ByteArray, fbs ss k ++ zba 40 = G := ⟨_, rfl⟩
      have zF := fbs_size ss k (by omega)
      have zG : G.size = 40 * (k + 1) := by rw [← hG, ba_add, zF, zba_size]; omega
      obtain ⟨H, hH⟩ : ∃ H : ByteArray, zba m ++ G = H := ⟨_, rfl⟩
      have zH : H.size = 240 := by rw [← hH, ba_add, zba_size, zG]; omega
      obtain ⟨Y, hY⟩ : ∃ Y : ByteArray, htn (nth ss k) H = Y := ⟨_, rfl⟩
      have zY : Y.size = 240 := by rw [← hY, htn_size _ _ (by omega), zH]
      have ST : Hid (Y.extract m 240 = fbs ss (k + 1)) := by
        rw [← hY, ← hH, ← hG]; exact fbs_step ss k m (by omega) hm
      have A1 : ∀ w, (Op.stringOp .add (fbs ss k) (zba 40)).run Tryz.prog w = .ok (.string G) w := fun w => by
        rw [← hG]; exact run_string_add_sum _ _ _ (by rw [zF, zba_size]; omega)
      have A2 : ∀ w, (Op.stringOp .add (zba m) G).run Tryz.prog w = .ok (.string H) w := fun w => by
        rw [← hH]; exact run_string_add_sum _ _ _ (by rw [zba_size, zG]; omega)
      have ZM : Hid (∀ w, Calls Tryz.prog 53 #[.int .i64 (m : Int)] w fun e w' => e = .returned (.string (zba m)) ∧ Below w.heap.size w w') := fun w => zeros_any m (by omega) (by omega) w
      have TU : Hid (∀ w, Calls Tryz.prog 52 #[hk6 (nth ss k), .string H] w fun e w' => e = .returned (.string Y) ∧ Below w.heap.size w w') := fun w => by
        rw [← hY]; exact hturned_any _ _ (by omega) w
      unfold hk6 at TU
      have zM := zba_size m
      have zMi : ((zba m).size : Int) = (m : Int) := by omega
      have zYi : (Y.size : Int) = 240 := by omega
      have s1 : IntKind.i64.wrap (240 - (G.size : Int)) = (m : Int) := by rw [IntKind.wrap_i64]; omega
      have s2 : wrap64 (240 - (G.size : Int)) = (m : Int) := by unfold wrap64; omega
      have m240 : (m : Int) ≤ 240 := by omega
      clear hG hH hY zG zH zF
      generalize zba m = Zm at *
      generalize zba 40 = Z at *
      obtain ⟨F, hF⟩ : ∃ F : ByteArray, fbs ss k = F := ⟨_, rfl⟩
      rw [hF] at A1 ⊢
      clear hF
      generalize nth ss k = s at *
      generalize hdk s lFlow 32 = k1 at *
      generalize hdk s lMac 32 = k2 at *
      generalize hdk s lBody 32 = k3 at *
      generalize bld s = k4 at *
      generalize hdk s lTag 16 = k5 at *
      go_wp2_with fail
      obtain ⟨A, hA⟩ : ∃ A, wr.alloc (.cells #[.string s, .string k1, .string k2, .string k3, .string k4, .string k5] 70) = A := ⟨_, rfl⟩
      have J : Hid (Six A wr.heap.size s k1 k2 k3 k4 k5 ∧ Below w.heap.size w A) := by
        rw [← hA]
        exact ⟨Six.new _ _ _ _ _ _ _ _, I.out.alloc I.out.size _⟩
      rw [hA]
      clear hA c0 c1 c2 c3 c4 c5 I
      generalize wr.heap.size = g at *
      refine Calls.mono (Z40.out _) ?_
      rintro e w1 ⟨rfl, hb1⟩
      have J1 : Hid (Six w1 g s k1 k2 k3 k4 k5 ∧ Below w.heap.size w w1) := ⟨J.out.1.later hb1, chain J.out.2 hb1⟩
      clear hb1 J Z40
      go_wp2_with fail
      refine Calls.mono (ZM.out _) ?_
      rintro e w2 ⟨rfl, hb2⟩
      have J2 : Hid (Six w2 g s k1 k2 k3 k4 k5 ∧ Below w.heap.size w w2) := ⟨J1.out.1.later hb2, chain J1.out.2 hb2⟩
      clear hb2 J1 ZM
      obtain ⟨-, c0, c1, c2, c3, c4, c5⟩ := J2.out.1
      go_wp2_with fail
      refine Calls.mono (TU.out _) ?_
      rintro e w3 ⟨rfl, hb3⟩
      have B3 : Hid (Below w.heap.size w w3) := chain J2.out.2 hb3
      clear hb3 J2 TU c0 c1 c2 c3 c4 c5
      go_wp2
      go_roundw
      case rel => exact ⟨k + 1, by omega, by go_num, by rw [ST.out], B3.out⟩
      case measure => simp [intOf]; omega
    · obtain rfl : k = n := by omega
      have g1 : ¬ (k : Int) < (k : Int) := by omega
      go_wp2
      go_ret
      exact ⟨rfl, I.out⟩
end Go.Proofs.YtgnkkjknngblbaaGreatDoor
namespace Go.Proofs.YtgnkkjknngblbaaGreatDoor
open Go.RowKit Go.Proofs.Fd Go.Proofs.Hs Go.Proofs.Cc Go.Proofs.Hd Go.Proofs.Rt
set_option maxRecDepth 20000
def Lb (seed : ByteArray) (ss : List ByteArray) (hs : List Hp) (j : Nat) : ByteArray := ⟨(lsts hs.length (fun i => hflow (nth ss i)) (fun i => byt (hs.getD i zh)) (fun i l => hmacf (nth ss i) l) (drv seed.data.toList lPad 200) j).toArray⟩
theorem Lb_data (seed : ByteArray) (ss : List ByteArray) (hs : List Hp) (j : Nat) : (Lb seed ss hs j).data.toList = lsts hs.length (fun i => hflow (nth ss i)) (fun i => byt (hs.getD i zh)) (fun i l => hmacf (nth ss i) l) (drv seed.data.toList lPad 200) j := by unfold Lb; simp
theorem Lb_hlst (seed : ByteArray) (ss : List ByteArray) (hs : List Hp) (i : Nat) : (Lb seed ss hs (hs.length - 1 - i)).data.toList = hlst seed ss hs i := by rw [Lb_data]; unfold hlst; with_reducible rfl
def Ins (seed : ByteArray) (ss : List ByteArray) (hs : List Hp) : Nat → ByteArray
  | 0 => zba 16 ++ hdk seed lPad 200
  | j + 1 => hmb (nth ss (hs.length - 1 - j)) (Lb seed ss hs j) ++ Lb seed ss hs j
def En (ss : List ByteArray) (m : Nat) : Nat → ByteArray
  | 0 => fbs ss m
  | _ + 1 => ⟨#[]⟩
theorem Ins_zero (seed : ByteArray) (ss : List ByteArray) (hs : List Hp) : Ins seed ss hs 0 = zba 16 ++ hdk seed lPad 200 := by rw [Ins]
theorem Ins_succ (seed : ByteArray) (ss : List ByteArray) (hs : List Hp) (j : Nat) : Ins seed ss hs (j + 1) = hmb (nth ss (hs.length - 1 - j)) (Lb seed ss hs j) ++ Lb seed ss hs j := by rw [Ins]
theorem Lb_size (seed : ByteArray) (ss : List ByteArray) (hs : List Hp) (h : hs.all ok = true) (hn : 1 ≤ hs.length ∧ hs.length ≤ 5) (j : Nat) (hj : j < hs.length) : (Lb seed ss hs j).size = 200 := by
  obtain ⟨e, -⟩ := (hlst_are seed ss hs h hn).ends (hs.length - 1 - j) (by omega)
  rw [← Lb_hlst, list_sz, show hs.length - 1 - (hs.length - 1 - j) = j by omega] at e
  exact e
theorem Ins_size (seed : ByteArray) (ss : List ByteArray) (hs : List Hp) (h : hs.all ok = true) (hn : 1 ≤ hs.length ∧ hs.length ≤ 5) (j : Nat) (hj : j ≤ hs.length) : (Ins seed ss hs j).size = 216 := by
  cases j with
  | zero => rw [Ins_zero, ba_add, zba_size, hdk_size]
  | succ j => rw [Ins_succ, ba_add, hmb_size, Lb_size seed ss hs h hn j (by omega)]
theorem En_size (ss : List ByteArray) (m : Nat) (hm : m ≤ 6) (j : Nat) : (En ss m j).size = if j = 0 then 40 * m else 0 := by
  cases j with
  | zero => show (fbs ss m).size = _; rw [fbs_size ss m hm, if_pos rfl]
  | succ j => rw [if_neg (by omega)]; rfl
theorem Lb_step (seed : ByteArray) (ss : List ByteArray) (hs : List Hp) (h : hs.all ok = true) (hn : 1 ≤ hs.length ∧ hs.length ≤ 5) (m j i : Nat) (hm : m + 1 = hs.length) (hi : i + j = m) :
    htn (nth ss i) ((⟨(byt (hs.getD i zh)).toArray⟩ ++ Ins seed ss hs j).extract 0 (200 - (En ss m j).size)) ++ En ss m j = Lb seed ss hs j := by
  have e : (htn (nth ss i) ((⟨(byt (hs.getD i zh)).toArray⟩ ++ Ins seed ss hs j).extract 0 (200 - (En ss m j).size)) ++ En ss m j).data.toList = (Lb seed ss hs j).data.toList := by
    rw [ba_app]
    unfold htn
    have x1 : ∀ l : List UInt8, ((⟨l.toArray⟩ : ByteArray).data.toList) = l := fun l => by simp
    rw [x1]
    have x2 : ((⟨(byt (hs.getD i zh)).toArray⟩ ++ Ins seed ss hs j).extract 0 (200 - (En ss m j).size)).data.toList = (byt (hs.getD i zh) ++ (Ins seed ss hs j).data.toList).take (200 - (En ss m j).size) := by
      rw [ByteArray.data_extract, Array.toList_extract, List.extract_eq_take_drop, List.drop_zero, ba_app, x1, Nat.sub_zero]
    rw [x2, Lb_data, En_size ss m (by omega) j]
    cases j with
    | zero =>
      obtain rfl : i = m := by omega
      rw [lsts, if_pos rfl, Ins_zero, ba_app, zba_data, hdk_data, show hs.length - 1 = i by omega, List.append_assoc]
      rfl
    | succ j =>
      have l1 : (byt (hs.getD i zh)).length = 24 := byt_len' hs h i
      have l2 : (lsts hs.length (fun i => hflow (nth ss i)) (fun i => byt (hs.getD i zh)) (fun i l => hmacf (nth ss i) l) (drv seed.data.toList lPad 200) j).length = 200 := by
        rw [← Lb_data, list_sz, Lb_size seed ss hs h hn j (by omega)]
      rw [lsts, if_neg (by omega), Ins_succ, ba_app, Lb_data]
      have x3 : (hmb (nth ss (hs.length - 1 - j)) (Lb seed ss hs j)).data.toList = hmacf (nth ss (hs.length - 1 - j)) (lsts hs.length (fun i => hflow (nth ss i)) (fun i => byt (hs.getD i zh)) (fun i l => hmacf (nth ss i) l) (drv seed.data.toList lPad 200) j) := by
        unfold hmb; rw [x1, Lb_data]
      rw [x3, show hs.length - 2 - j = i by omega]
      have x4 : (En ss m (j + 1)).data.toList = [] := rfl
      rw [x4, List.append_nil]
      generalize lsts hs.length (fun i => hflow (nth ss i)) (fun i => byt (hs.getD i zh)) (fun i l => hmacf (nth ss i) l) (drv seed.data.toList lPad 200) j = L at *
      have l3 := hmacf_len (nth ss (hs.length - 1 - j)) L
      generalize hmacf (nth ss (hs.length - 1 - j)) L = M at *
      generalize byt (hs.getD i zh) = C at *
      congr 1
      rw [← List.append_assoc, List.take_append, List.length_append, l1, l3, List.take_of_length_le (by rw [List.length_append, l1, l3]; decide)]
  exact ByteArray.ext (Array.toList_inj.1 e)
theorem Ins_all (seed : ByteArray) (ss : List ByteArray) (hs : List Hp) (hn : 1 ≤ hs.length) : ptB seed [] ++ Ins seed ss hs hs.length = ⟨(hhead seed ss hs 0).toArray⟩ := by
  obtain ⟨m, hm⟩ : ∃ m, hs.length = m + 1 := ⟨hs.length - 1, by omega⟩
  apply ba_of
  have e : hs.length - 1 - m = 0 := by omega
  rw [ba_app]
  conv => lhs; rw [hm]
  rw [Ins_succ, e, ba_app]
  unfold hhead
  have x : (hmb (nth ss 0) (Lb seed ss hs m)).data.toList = hmacf (nth ss 0) (Lb seed ss hs m).data.toList := by unfold hmb; simp
  have y : (Lb seed ss hs m).data.toList = hlst seed ss hs 0 := by rw [← Lb_hlst, hm]; rfl
  rw [x, y, List.take_zero, List.map_nil, List.append_assoc]
end Go.Proofs.YtgnkkjknngblbaaGreatDoor
namespace Go.Proofs.YtgnkkjknngblbaaGreatDoor
open Go.RowKit Go.Proofs.Fd Go.Proofs.Hs Go.Proofs.Cc Go.Proofs.Hd Go.Proofs.Rt Go.Proofs.Wd
set_option maxRecDepth 20000
theorem mk_ok (seed : ByteArray) (pts : List ByteArray) (hs : List Hp) (h : mkE seed pts hs = 0) : (mkH seed pts hs).size = 248 ∧ 1 ≤ (mkS seed pts hs).length ∧ (mkS seed pts hs).length ≤ 5 := by
  have eH : mkH seed pts hs = ⟨(hhead seed (mkS seed pts hs) hs 0).toArray⟩ := by unfold mkH; rw [if_pos h]
  have eS : mkS seed pts hs = (secs seed pts []).getD [] := by unfold mkS; rw [if_pos h]
  have hp : pth hs = 0 := by
    unfold mkE at h
    by_cases q : pth hs = 0
    · exact q
    · rw [if_neg q] at h; exact h
  have h' := h
  unfold mkE at h'
  rw [if_pos hp] at h'
  by_cases q2 : pts.length = hs.length
  · rw [if_pos q2] at h'
    by_cases q3 : seed.size = 32 ∧ (pts.all fun p => p.size == 32) = true
    · rw [if_pos q3] at h'
      obtain ⟨r1, r2, r3, -⟩ := pth_zero hs hp
      cases hsec : secs seed pts [] with
      | none => rw [hsec] at h'; cases h'
      | some ss =>
        have e : mkS seed pts hs = ss := by rw [eS, hsec]; rfl
        have l : ss.length = pts.length := secsG_len _ _ _ _ _ hsec
        refine ⟨?_, by rw [e]; omega, by rw [e]; omega⟩
        rw [eH, ← Ins_all seed _ hs r2, ba_add, ptB_size, Ins_size seed _ hs r1 ⟨r2, r3⟩ _ (Nat.le_refl _)]
    · rw [if_neg q3] at h'; cases h'
  · rw [if_neg q2] at h'; cases h'
def pbd (ss : List ByteArray) (t : ByteArray) (i : Nat) : ByteArray := ⟨(pld (ss.drop i) t.data.toList).toArray⟩
theorem pbd_size (ss : List ByteArray) (t : ByteArray) (i : Nat) (ht : t.size ≤ 222) : (pbd ss t i).size = 256 := by unfold pbd; rw [ba_sz, pld_len _ _ (by rw [list_sz]; exact ht)]
theorem drop_nth (ss : List ByteArray) (i : Nat) (hi : i < ss.length) : ss.drop i = nth ss i :: ss.drop (i + 1) := by
  unfold nth
  rw [List.getD_eq_getElem?_getD, List.getElem?_eq_getElem hi]
  exact List.drop_eq_getElem_cons hi
theorem shV_pbd (ss : List ByteArray) (t : ByteArray) (i : Nat) (hi : i < ss.length) (ht : t.size ≤ 222) : shV (hdk (nth ss i) lBody 32) (pbd ss t (i + 1)) = #[.string (pbd ss t i), .int .i64 0] := by
  rw [shV_ok _ _ (by rw [pbd_size _ _ _ ht]; decide) (by rw [pbd_size _ _ _ ht]; decide)]
  have e : pbd ss t i = ⟨(shutl (hdk (nth ss i) lBody 32).data.toList (pbd ss t (i + 1)).data.toList).toArray⟩ := by
    show (⟨(pld (ss.drop i) t.data.toList).toArray⟩ : ByteArray) = _
    rw [drop_nth ss i hi, pld_cons]
    rfl
  rw [← e]
theorem wrV_pbd (ss : List ByteArray) (t : ByteArray) (i : Nat) (hi : i + 1 = ss.length) (ht : t.size ≤ 222) : wrV (hdk (nth ss i) lBody 32) t 256 = #[.string (pbd ss t i), .int .i64 0] := by
  have h := wrV_ok (hdk (nth ss i) lBody 32) t 256 (by decide) (by decide) (by omega)
  have e : pbd ss t i = ⟨(shutl (hdk (nth ss i) lBody 32).data.toList (plainl t.data.toList 256)).toArray⟩ := by
    show (⟨(pld (ss.drop i) t.data.toList).toArray⟩ : ByteArray) = _
    rw [drop_nth ss i (by omega), pld_cons, List.drop_of_length_le (by omega), pld_nil]
    rfl
  rw [e]
  exact h
theorem pm_parts (seed : ByteArray) (pts : List ByteArray) (t : ByteArray) (hs : List Hp) (h : mkE seed pts hs = 0) (ht : t.size ≤ 222) : pmE seed pts t hs = 0 ∧ pmB seed pts t hs = mkH seed pts hs ++ pbd (mkS seed pts hs) t 0 := by
  obtain ⟨h1, h2⟩ := pm_ok seed pts t hs h ht
  refine ⟨h1, ?_⟩
  rw [h2]
  apply ByteArray.ext
  simp [pbd]
end Go.Proofs.YtgnkkjknngblbaaGreatDoor
namespace Go.Proofs.YtgnkkjknngblbaaGreatDoor
open Go.RowKit Go.Proofs.Fd Go.Proofs.Hs Go.Proofs.Cc Go.Proofs.Hd Go.Proofs.Rt Go.Proofs.Wd
set_option maxRecDepth 20000
theorem Six.drew {w : World} {g : Nat} {k0 k1 k2 k3 k4 k5 : ByteArray} (h : Six w g k0 k1 k2 k3 k4 k5) : Six w.drew g k0 k1 k2 k3 k4 k5 := h.later (Below.refl _ _).drew
theorem Six.put5 {w : World} {g : Nat} {k0 k1 k2 k3 k4 k5 : ByteArray} (h : Six w g k0 k1 k2 k3 k4 k5) (y0 y1 y2 y3 y4 : ByteArray) :
    Six (((((w.setCell ⟨g, 0, none⟩ (.string y0)).setCell ⟨g, 1, none⟩ (.string y1)).setCell ⟨g, 2, none⟩ (.string y2)).setCell ⟨g, 3, none⟩ (.string y3)).setCell ⟨g, 4, none⟩ (.string y4)) g y0 y1 y2 y3 y4 k5 := by
  obtain ⟨f, h0, h1, h2, h3, h4, h5⟩ := h
  refine ⟨fun o => by simp [go_sem, f], ?_, ?_, ?_, ?_, ?_, ?_⟩ <;> simp [go_sem, h0, h1, h2, h3, h4, h5]
set_option maxHeartbeats 1000000 in
theorem pwrap_any (g : Nat) (k0 k1 k2 k3 k4 k5 t R : ByteArray) (w : World) (hS : Hid (Six w g k0 k1 k2 k3 k4 k5)) (hK : Hid (Kh w))
    (WR : Hid (∀ w, Kh w → Calls Tryz.prog 70 #[.string k2, .string t, .int .i64 256] w fun e w' => e = .returned (.tuple #[.string R, .int .i64 0]) ∧ Below w.heap.size w w')) :
    Calls Tryz.prog 32 #[.pointer (some ⟨g, 0, none⟩), .string t] w fun e w' => e = .returned (.tuple #[]) ∧ Six w' g k0 k1 k2 k3 k4 R ∧ Below g w w' := by
  obtain ⟨fz, -, -, c2, -, -, c5⟩ := hS.out
  have gl := hS.out.lt
  go_enter Tryz.func32, Tryz.ntmps32
  go_wp2_with fail
  refine Calls.mono (WR.out _ hK.out) ?_
  rintro e w1 ⟨rfl, hb1⟩
  have H1 : Hid (Six w1 g k0 k1 k2 k3 k4 k5 ∧ Below g w w1) := ⟨Six.later hS.out hb1, hb1.mono (Nat.le_of_lt hS.out.lt)⟩
  have c51 := H1.out.1.2.2.2.2.2.2
  have f51 := H1.out.1.1 5
  clear hb1 WR c2 c5
  go_wp2
  exact bodyPost_end (results_none Tryz.results32 _ _ _) rfl ⟨rfl, H1.out.1.set5 R, H1.out.2.setCell (p := ⟨g, 5, none⟩) (Nat.le_refl _) _⟩
set_option maxHeartbeats 1000000 in
theorem pshut_any (g : Nat) (k0 k1 k2 k3 k4 k5 R : ByteArray) (w : World) (hS : Hid (Six w g k0 k1 k2 k3 k4 k5)) (hK : Hid (Kh w))
    (WR : Hid (∀ w, Kh w → Calls Tryz.prog 71 #[.string k2, .string k5] w fun e w' => e = .returned (.tuple #[.string R, .int .i64 0]) ∧ Below w.heap.size w w')) :
    Calls Tryz.prog 33 #[.pointer (some ⟨g, 0, none⟩)] w fun e w' => e = .returned (.tuple #[]) ∧ Six w' g k0 k1 k2 k3 k4 R ∧ Below g w w' := by
  obtain ⟨fz, -, -, c2, -, -, c5⟩ := hS.out
  have gl := hS.out.lt
  go_enter Tryz.func33, Tryz.ntmps33
  go_wp2
  go_region_with (first | (go_at_call 71; refine Calls.mono (WR.out _ (Kh.later hK.out (Below.refl _ _).drew)) ?_; rintro e w1 ⟨rfl, hb1⟩; have H1 : Hid (Six w1 g k0 k1 k2 k3 k4 k5) := Six.later (Six.drew hS.out) hb1; have c51 := H1.out.2.2.2.2.2.2; have f51 := H1.out.1 5))
  all_goals
    exact bodyPost_end (results_none Tryz.results33 _ _ _) rfl ⟨rfl, H1.out.set5 R, ((chain (Below.refl _ _).drew hb1).mono (Nat.le_of_lt hS.out.lt)).setCell (p := ⟨g, 5, none⟩) (Nat.le_refl _) _⟩
set_option maxHeartbeats 1000000 in
theorem popen_any (g : Nat) (k0 k1 k2 k3 k4 k5 R : ByteArray) (w : World) (hS : Hid (Six w g k0 k1 k2 k3 k4 k5)) (hK : Hid (Kh w))
    (WR : Hid (∀ w, Kh w → Calls Tryz.prog 56 #[.string k2, .string k5] w fun e w' => e = .returned (.tuple #[.string R, .int .i64 0]) ∧ Below w.heap.size w w')) :
    Calls Tryz.prog 22 #[.pointer (some ⟨g, 0, none⟩)] w fun e w' => e = .returned (.tuple #[]) ∧ Six w' g k0 k1 k2 k3 k4 R ∧ Below g w w' := by
  obtain ⟨fz, -, -, c2, -, -, c5⟩ := hS.out
  have gl := hS.out.lt
  go_enter Tryz.func22, Tryz.ntmps22
  go_wp2
  go_region_with (first | (go_at_call 56; refine Calls.mono (WR.out _ (Kh.later hK.out (Below.refl _ _).drew)) ?_; rintro e w1 ⟨rfl, hb1⟩; have H1 : Hid (Six w1 g k0 k1 k2 k3 k4 k5) := Six.later (Six.drew hS.out) hb1; have c51 := H1.out.2.2.2.2.2.2; have f51 := H1.out.1 5))
  all_goals
    exact bodyPost_end (results_none Tryz.results22 _ _ _) rfl ⟨rfl, H1.out.set5 R, ((chain (Below.refl _ _).drew hb1).mono (Nat.le_of_lt hS.out.lt)).setCell (p := ⟨g, 5, none⟩) (Nat.le_refl _) _⟩
set_option maxHeartbeats 1000000 in
theorem ptext_any (g : Nat) (k0 k1 k2 k3 k4 k5 R : ByteArray) (E : Int) (w : World) (hS : Hid (Six w g k0 k1 k2 k3 k4 k5)) (hK : Hid (Kh w))
    (WR : Hid (∀ w, Kh w → Calls Tryz.prog 57 #[.string k2, .string k5] w fun e w' => e = .returned (.tuple #[.string R, .int .i64 E]) ∧ Below w.heap.size w w')) :
    Calls Tryz.prog 23 #[.pointer (some ⟨g, 0, none⟩)] w fun e w' => e = .returned (.tuple #[.string R, .int .i64 E]) ∧ Below w.heap.size w w' := by
  obtain ⟨fz, -, -, c2, -, -, c5⟩ := hS.out
  have gl := hS.out.lt
  go_enter Tryz.func23, Tryz.ntmps23
  go_wp2
  go_region_with (first | (go_at_call 57; refine Calls.mono (WR.out _ (Kh.later hK.out (Below.refl _ _).drew)) ?_; rintro e w1 ⟨rfl, hb1⟩; have H1 : Hid (Below w.heap.size w w1) := chain (Below.refl _ _).drew hb1))
  all_goals
    go_wp2
    go_ret2
    exact ⟨rfl, H1.out⟩
end Go.Proofs.YtgnkkjknngblbaaGreatDoor
