/- What the document expands. -/
import Derived.Test.YtdebfelgaiofeacDoorKD1
namespace Go.Proofs.YtdebfelgaiofeacDoor
open Go.RowKit Go.Proofs.Fd Go.Proofs.Hs

theorem rExpand_no (key info : ByteArray) (n : Int) (h : n < 0 ∨ 8160 < n) (w : World) :
    Calls Tryd.prog 18 #[.string key, .string info, .int .i64 n] w fun e w' => e = .returned (.tuple #[.string ⟨#[]⟩, .int .i64 1]) ∧ Below w.heap.size w w' := by
  by_cases h1 : n < 0
  · go_enter Tryd.func18, Tryd.ntmps18
    go_wp2
    go_ret2
    exact ⟨rfl, Below.refl _ _⟩
  · have h2 : 8160 < n := by omega
    clear h
    go_enter Tryd.func18, Tryd.ntmps18
    go_wp2
    go_ret2
    exact ⟨rfl, Below.refl _ _⟩

theorem ba_size (l : List UInt8) : (⟨l.toArray⟩ : ByteArray).size = l.length := by
  show l.toArray.size = _; simp

set_option maxHeartbeats 2000000 in
theorem rExpand_ok (key info : ByteArray) (n : Nat) (hn : n ≤ 8160) (hk : Hid (key.size ≤ 140737488355328)) (hi : Hid (info.size + 97 ≤ 140737488355328)) (w : World) :
    Calls Tryd.prog 18 #[.string key, .string info, .int .i64 (n : Int)] w fun e w' => e = .returned (.tuple #[.string ⟨(xpn key.data.toList info.data.toList n).toArray⟩, .int .i64 0]) ∧ Below w.heap.size w w' := by
  have TG : Hid (∀ (t : ByteArray) (w : World), t.size + 64 ≤ 140737488355328 → Calls Tryd.prog 12 #[.string key, .string t] w fun e w' => e = .returned (.string ⟨(hmac key.data.toList t.data.toList).toArray⟩) ∧ Below w.heap.size w w') := fun t w h => rTag_any key t hk h w
  have g1 : ¬ (n : Int) < 0 := by omega
  have g2 : ¬ (8160 : Int) < (n : Int) := by omega
  have g3 : (n : Int) ≤ 8160 := by omega
  go_enter Tryd.func18, Tryd.ntmps18
  go_wp2
  go_loopw [8, 9, 10] (fun o l i wr => ∃ j : Nat, 32 * j < n + 32 ∧ o = .string ⟨(tgs key.data.toList info.data.toList j).toArray⟩ ∧ l = .string ⟨(tg key.data.toList info.data.toList j).toArray⟩ ∧ i = .int .i64 ((j + 1 : Nat) : Int) ∧ Hid (Below w.heap.size w wr)) (fun _ _ i _ => 8192 - (intOf i).toNat)
  case atStart => exact ⟨0, by omega, rfl, rfl, rfl, Below.refl _ _⟩
  case round =>
    obtain ⟨j, hj, rfl, rfl, rfl, I⟩ := hrel
    have zO : Hid ((⟨(tgs key.data.toList info.data.toList j).toArray⟩ : ByteArray).size = 32 * j) := by show _ = _; rw [ba_size, tgs_len]
    by_cases hlt : 32 * j < n
    · obtain ⟨p, hp⟩ : ∃ p, j + 1 = p := ⟨_, rfl⟩
      have hp255 : p ≤ 255 := by omega
      obtain ⟨b, hb⟩ : ∃ b, UInt8.ofNat p = b := ⟨_, rfl⟩
      have eb : IntKind.u8.wrap (p : Int) = (b.toNat : Int) := by rw [IntKind.wrap_u8, ← hb, UInt8.toNat_ofNat']; omega
      have eb2 : (p : Int) % 256 = (b.toNat : Int) := by rw [← hb, UInt8.toNat_ofNat']; omega
      have CB : (convert 36 9 (.slice (some ⟨wr.heap.size, 0, none⟩) 1 1)).run Tryd.prog (wr.alloc (.cells #[.int .u8 (b.toNat : Int)] 5)) = .ok (.string ⟨[b].toArray⟩) (wr.alloc (.cells #[.int .u8 (b.toNat : Int)] 5)) := by
        have h : BytesAt (wr.alloc (.cells #[.int .u8 (b.toNat : Int)] 5)) wr.heap.size [b] := fun i hi => by
          obtain rfl : i = 0 := by simp at hi; omega
          exact ⟨by rw [World.cell?_alloc_new]; rfl, by simp [go_sem]⟩
        exact h.string rfl
      have zL : Hid ((⟨(tg key.data.toList info.data.toList j).toArray⟩ : ByteArray).size ≤ 32) := by
        show _ ≤ _
        rw [ba_size]
        cases j with
        | zero => exact Nat.zero_le _
        | succ j => rw [tg_len]; exact Nat.le_refl _
      have T1 : Hid (∀ w, Calls Tryd.prog 12 #[.string key, .string ((⟨(tg key.data.toList info.data.toList j).toArray⟩ : ByteArray) ++ info ++ ⟨[b].toArray⟩)] w fun e w' => e = .returned (.string ⟨(tg key.data.toList info.data.toList (j + 1)).toArray⟩) ∧ Below w.heap.size w w') := fun w => by
        have h := TG.out ((⟨(tg key.data.toList info.data.toList j).toArray⟩ : ByteArray) ++ info ++ ⟨[b].toArray⟩) w (by
          rw [ByteArray.size_append, ByteArray.size_append]
          have h1 := hi.out
          have h2 := zL.out
          have h3 : (⟨[b].toArray⟩ : ByteArray).size = 1 := rfl
          omega)
        have e : ((⟨(tg key.data.toList info.data.toList j).toArray⟩ : ByteArray) ++ info ++ ⟨[b].toArray⟩).data.toList = tg key.data.toList info.data.toList j ++ info.data.toList ++ [UInt8.ofNat (j + 1)] := by
          rw [ByteArray.data_append, ByteArray.data_append, Array.toList_append, Array.toList_append, hp, hb]
        rw [e] at h
        exact h
      have NX : Hid ((⟨(tgs key.data.toList info.data.toList (j + 1)).toArray⟩ : ByteArray) = ⟨(tgs key.data.toList info.data.toList j).toArray⟩ ++ ⟨(tg key.data.toList info.data.toList (j + 1)).toArray⟩) := by
        show _ = _
        apply ByteArray.ext
        rw [ByteArray.data_append, tgs_succ]
        simp
      have NL : Hid ((⟨(tg key.data.toList info.data.toList (j + 1)).toArray⟩ : ByteArray).size = 32) := by show _ = _; rw [ba_size, tg_len]
      obtain ⟨O, hO⟩ : ∃ X : ByteArray, ⟨(tgs key.data.toList info.data.toList j).toArray⟩ = X := ⟨_, rfl⟩
      obtain ⟨L, hL⟩ : ∃ X : ByteArray, ⟨(tg key.data.toList info.data.toList j).toArray⟩ = X := ⟨_, rfl⟩
      obtain ⟨N, hN⟩ : ∃ X : ByteArray, ⟨(tg key.data.toList info.data.toList (j + 1)).toArray⟩ = X := ⟨_, rfl⟩
      obtain ⟨Bb, hB⟩ : ∃ X : ByteArray, ⟨[b].toArray⟩ = X := ⟨_, rfl⟩
      have zB : Hid (Bb.size = 1) := by show _ = _; rw [← hB]; rfl
      have HN : Hid ((⟨(tg key.data.toList info.data.toList (j + 1)).toArray⟩ : ByteArray) = N) := hN
      rw [hO] at zO NX
      rw [hL] at zL T1
      rw [hN] at NX NL T1
      rw [hB] at CB T1
      rw [hO, hL, hp]
      have gO : (O.size : Int) < (n : Int) := by have := zO.out; omega
      have f1 : ∀ w, (Op.stringOp .add L info).run Tryd.prog w = .ok (.string (L ++ info)) w := fun w => run_string_add_sum _ _ _ (by have := zL.out; have := hi.out; omega)
      have f2 : ∀ w, (Op.stringOp .add (L ++ info) Bb).run Tryd.prog w = .ok (.string (L ++ info ++ Bb)) w := fun w => run_string_add_sum _ _ _ (by rw [ByteArray.size_append]; have := zL.out; have := hi.out; have := zB.out; omega)
      have f3 : ∀ w, (Op.stringOp .add O N).run Tryd.prog w = .ok (.string (O ++ N)) w := fun w => run_string_add_sum _ _ _ (by have := zO.out; have := NL.out; omega)
      have HP : Hid (j + 1 = p) := hp
      clear hO hL hN hB hb hp TG
      go_wp2_with fail
      refine Calls.mono (T1.out _) ?_
      rintro e w2 ⟨rfl, hb2⟩
      have B2 : Hid (Below w.heap.size w w2) := chain (I.out.alloc I.out.size _) hb2
      clear hb2 CB T1
      go_wp2
      exact ⟨⟨j + 1, by omega, by rw [NX.out], by rw [HN.out], by have := HP.out; congr 1; omega, B2.out⟩, by simp [intOf]; omega⟩
    · have gO : (n : Int) ≤ ((⟨(tgs key.data.toList info.data.toList j).toArray⟩ : ByteArray).size : Int) := by have := zO.out; omega
      have EX : Hid ((⟨(xpn key.data.toList info.data.toList n).toArray⟩ : ByteArray) = (⟨(tgs key.data.toList info.data.toList j).toArray⟩ : ByteArray).extract 0 n) := by
        show _ = _
        apply ByteArray.ext
        rw [← xpn_of key.data.toList info.data.toList n j (by omega), ByteArray.data_extract]
        simp
      generalize (⟨(tgs key.data.toList info.data.toList j).toArray⟩ : ByteArray) = O at *
      generalize (⟨(tg key.data.toList info.data.toList j).toArray⟩ : ByteArray) = L at *
      have gN : ¬ (O.size : Int) < (n : Int) := by omega
      have g0 : (0 : Int) ≤ (n : Int) := by omega
      clear TG
      go_wp2
      go_ret2
      exact ⟨by rw [EX.out]; rfl, I.out⟩
end Go.Proofs.YtdebfelgaiofeacDoor
