/- KeyedBlocks answers true, by the layer's contracts. -/
import Derived.Test.YtdebfelgaiofeadDoorKE
namespace Go.Proofs.YtdebfelgaiofeadDoor
open Go.RowKit Go.Proofs.Fd Go.Proofs.Hs

set_option maxHeartbeats 1000000 in
theorem KeyedBlocks_walk (CT : Hid TagC) (CS : Hid SameC) (CX : Hid ExpandC) (key info : ByteArray) (hk0 : key.size ≤ 140737488351232) (hi0 : info.size ≤ 140737488351232) (c : Int) (w : World) (hk : Hid (Kh w)) :
    Calls Tryd.prog 4 #[.string key, .string info, .int .i64 c] w fun e w' => e = .returned (.bool true) ∧ Below w.heap.size w w' := by
  obtain ⟨m, hm⟩ : ∃ m : Nat, 1 + (c % 18446744073709551616).toNat % 6 = m := ⟨_, rfl⟩
  have m6 : 1 ≤ m ∧ m ≤ 6 := by omega
  have e2 : (IntKind.u64.wrap c).tmod 6 = (m : Int) - 1 := by
    rw [IntKind.wrap_u64, Int.tmod_eq_emod_of_nonneg (by omega)]; omega
  have e2' : (c % 18446744073709551616).tmod 6 = (m : Int) - 1 := by rw [← IntKind.wrap_u64]; exact e2
  have e2'' : c % 18446744073709551616 % 6 = (m : Int) - 1 := by omega
  have e3 : IntKind.i64.wrap ((m : Int) - 1) = (m : Int) - 1 := by rw [IntKind.wrap_i64]; omega
  have e4 : IntKind.i64.wrap (1 + ((m : Int) - 1)) = (m : Int) := by rw [IntKind.wrap_i64]; omega
  have e4' : (1 : Int) + ((m : Int) - 1) = (m : Int) := by omega
  have e4'' : IntKind.i64.wrap (m : Int) = (m : Int) := by rw [IntKind.wrap_i64]; omega
  obtain ⟨q, hq⟩ : ∃ q, 32 * m = q := ⟨_, rfl⟩
  have e5 : IntKind.i64.wrap (32 * (m : Int)) = (q : Int) := by rw [IntKind.wrap_i64]; omega
  have e5' : 32 * (m : Int) = (q : Int) := by omega
  have e5'' : IntKind.i64.wrap (q : Int) = (q : Int) := by rw [IntKind.wrap_i64]; omega
  have X1 : Hid (∀ w, Kh w → Calls Tryd.prog 7 #[.string key, .string info, .int .i64 (q : Int)] w fun e w' => e = .returned (.tuple #[.string ⟨(tgs key.data.toList info.data.toList m).toArray⟩, .int .i64 0]) ∧ Below w.heap.size w w') := fun w h => by
    have h := CX.out key info (q : Int) w (by show _ ≤ _; omega) (by show _ ≤ _; omega) h
    unfold xpV at h
    rw [if_neg (by omega), Int.toNat_natCast, ← hq, xpn_whole] at h
    rw [← hq]
    exact h
  obtain ⟨S, hS⟩ : ∃ S : ByteArray, ⟨(tgs key.data.toList info.data.toList m).toArray⟩ = S := ⟨_, rfl⟩
  have zS : S.size = q := by rw [← hS, ba_size, tgs_len, hq]
  have EX : Hid (∀ j, j < m → S.extract (32 * j) (32 * j + 32) = ⟨(tg key.data.toList info.data.toList (j + 1)).toArray⟩) := fun j hj => by
    apply ByteArray.ext
    rw [← hS, ← tgs_at key.data.toList info.data.toList m j hj, ByteArray.data_extract]
    simp [List.take_drop]
  have TG : Hid (∀ (j B : Nat) (L Bb : ByteArray) (w' : World), L.data.toList = tg key.data.toList info.data.toList j → Bb.data.toList = [UInt8.ofNat (j + 1)] → L.size ≤ 140737488355328 → Bb.size ≤ 140737488355328 → Kh w' → w'.cell? ⟨B, 0, none⟩ = some (.string L) → w'.cell? ⟨B, 1, none⟩ = some (.string info) → w'.cell? ⟨B, 2, none⟩ = some (.string Bb) → Calls Tryd.prog 6 #[.string key, .slice (some ⟨B, 0, none⟩) 3 3] w' fun e w'' => e = .returned (.string ⟨(tg key.data.toList info.data.toList (j + 1)).toArray⟩) ∧ Below w'.heap.size w' w'') := fun j B L Bb w' hL hB zL zB hw h0 h1 h2 => by
    have h := CT.out key (some ⟨B, 0, none⟩) [L, info, Bb] 3 3 w' rfl (by show _ ≤ _; decide) (by show _ ≤ _; omega) (fun s hs => by
      simp at hs
      rcases hs with rfl | rfl | rfl
      · exact zL
      · omega
      · exact zB) hw (strAt3 h0 h1 h2)
    have e : hmac key.data.toList (jnd [L, info, Bb]) = tg key.data.toList info.data.toList (j + 1) := by
      show _ = hmac key.data.toList (tg key.data.toList info.data.toList j ++ info.data.toList ++ [UInt8.ofNat (j + 1)])
      rw [← hL, ← hB]
      simp [jnd]
    rw [e] at h
    exact h
  rw [hS] at X1
  clear hm hS CX
  go_enter Tryd.func4, Tryd.ntmps4
  go_wp2_with fail
  refine Calls.mono (works4_any CT CS _ hk) ?_
  rintro e w1 ⟨rfl, hb⟩
  have B1 : Hid (Below w.heap.size w w1 ∧ Kh w1) := ⟨hb, hk.out.later hb⟩
  clear hb CT CS
  go_wp2_with fail
  refine Calls.mono (X1.out _ B1.out.2) ?_
  rintro e w2 ⟨rfl, hb⟩
  have B2 : Hid (Below w.heap.size w w2 ∧ Kh w2) := ⟨chain B1.out.1 hb, B1.out.2.later hb⟩
  clear hb X1
  go_wp2
  go_loopw [9, 36] (fun la i wr => ∃ j : Nat, j ≤ m ∧ i = .int .i64 (j : Int) ∧ la = .string ⟨(tg key.data.toList info.data.toList j).toArray⟩ ∧ Hid (Below w.heap.size w wr ∧ Kh wr)) (fun _ i _ => m - (intOf i).toNat)
  case atStart => exact ⟨0, Nat.zero_le _, rfl, rfl, B2.out⟩
  case round =>
    obtain ⟨j, hj, rfl, rfl, I⟩ := hrel
    clear B2 B1 e2 e2' e2'' e3 e4 e4' e5 e5' e5''
    by_cases hlt : j < m
    · have g1 : (j : Int) < (m : Int) := by omega
      have g6 : (j : Int) < 6 := by omega
      have hj6 : j < 6 := by omega
      obtain ⟨b, hbb⟩ : ∃ b, UInt8.ofNat (j + 1) = b := ⟨_, rfl⟩
      have eb : IntKind.u8.wrap ((j : Int) + 1) = (b.toNat : Int) := by rw [IntKind.wrap_u8, ← hbb, UInt8.toNat_ofNat']; omega
      have eb2 : ((j : Int) + 1) % 256 = (b.toNat : Int) := by rw [← hbb, UInt8.toNat_ofNat']; omega
      have ew : IntKind.i64.wrap ((j : Int) + 1) = (j : Int) + 1 := by rw [IntKind.wrap_i64]; omega
      have CB : (convert 29 9 (.slice (some ⟨wr.heap.size, 0, none⟩) 1 1)).run Tryd.prog (wr.alloc (.cells #[.int .u8 (b.toNat : Int)] 5)) = .ok (.string ⟨[b].toArray⟩) (wr.alloc (.cells #[.int .u8 (b.toNat : Int)] 5)) := by
        have h : BytesAt (wr.alloc (.cells #[.int .u8 (b.toNat : Int)] 5)) wr.heap.size [b] := fun i hi => by
          obtain rfl : i = 0 := by simp at hi; omega
          exact ⟨by rw [World.cell?_alloc_new]; rfl, by simp [go_sem]⟩
        exact h.string rfl
      obtain ⟨L, hL⟩ : ∃ X : ByteArray, ⟨(tg key.data.toList info.data.toList j).toArray⟩ = X := ⟨_, rfl⟩
      obtain ⟨Bb, hB⟩ : ∃ X : ByteArray, ⟨[b].toArray⟩ = X := ⟨_, rfl⟩
      obtain ⟨N, hN⟩ : ∃ X : ByteArray, ⟨(tg key.data.toList info.data.toList (j + 1)).toArray⟩ = X := ⟨_, rfl⟩
      have zL : L.size ≤ 140737488355328 := by
        rw [← hL, ba_size]
        cases j with
        | zero => exact Nat.zero_le _
        | succ j => rw [tg_len]; decide
      have T1 : Hid (∀ (B : Nat) (w' : World), Kh w' → w'.cell? ⟨B, 0, none⟩ = some (.string L) → w'.cell? ⟨B, 1, none⟩ = some (.string info) → w'.cell? ⟨B, 2, none⟩ = some (.string Bb) → Calls Tryd.prog 6 #[.string key, .slice (some ⟨B, 0, none⟩) 3 3] w' fun e w'' => e = .returned (.string N) ∧ Below w'.heap.size w' w'') := fun B w' hw h0 h1 h2 => by
        rw [← hN]
        exact TG.out j B L Bb w' (by rw [← hL]) (by rw [← hB, hbb]) zL (by rw [← hB]; show (1 : Nat) ≤ _; decide) hw h0 h1 h2
      obtain ⟨p, hp⟩ : ∃ p, 32 * j = p := ⟨_, rfl⟩
      obtain ⟨r, hr⟩ : ∃ r, 32 * j + 32 = r := ⟨_, rfl⟩
      have p1 : IntKind.i64.wrap (32 * (j : Int)) = (p : Int) := by rw [IntKind.wrap_i64]; omega
      have p2 : 32 * (j : Int) = (p : Int) := by omega
      have p3 : IntKind.i64.wrap (p : Int) = (p : Int) := by rw [IntKind.wrap_i64]; omega
      have p4 : IntKind.i64.wrap ((p : Int) + 32) = (r : Int) := by rw [IntKind.wrap_i64]; omega
      have p5 : (p : Int) + 32 = (r : Int) := by omega
      have p6 : IntKind.i64.wrap (r : Int) = (r : Int) := by rw [IntKind.wrap_i64]; omega
      have p7 : (p : Int) ≤ (r : Int) := by omega
      have p8 : (r : Int) ≤ (S.size : Int) := by omega
      have EE : S.extract p r = N := by rw [← hp, ← hr, ← hN]; exact EX.out j hlt
      have NN : Hid (N = ⟨(tg key.data.toList info.data.toList (j + 1)).toArray⟩) := hN.symm
      rw [hB] at CB
      rw [hL]
      clear hL hB hN zL TG EX hp hr
      go_wp2_with fail
      refine Calls.mono (T1.out (wr.heap.size + 1) _ ((I.out.2.alloc _).alloc _) (by simp [go_sem]) (by simp [go_sem]) (by simp [go_sem])) ?_
      rintro e w3 ⟨rfl, hb3⟩
      have I3 : Hid (Below w.heap.size w w3 ∧ Kh w3) := by
        have hb' : Below wr.heap.size wr w3 := chain (((Below.refl _ _).alloc (Nat.le_refl _) _).alloc (by simp) _) hb3
        exact ⟨chain I.out.1 hb', I.out.2.later hb'⟩
      clear hb3 T1 CB
      go_wp2
      go_roundw
      case rel => exact ⟨j + 1, by omega, by go_num, by rw [NN.out], I3.out⟩
      case measure => simp [intOf]; omega
    · obtain rfl : j = m := by omega
      have g1 : ¬ (j : Int) < (j : Int) := by omega
      go_wp2
      go_ret
      exact ⟨rfl, I.out.1⟩
end Go.Proofs.YtdebfelgaiofeadDoor
