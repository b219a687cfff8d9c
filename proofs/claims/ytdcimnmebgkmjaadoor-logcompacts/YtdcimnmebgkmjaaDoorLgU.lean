/- A half's bytes, read. -/
import Derived.Test.YtdcimnmebgkmjaaDoorLgT
namespace Go.Proofs.YtdcimnmebgkmjaaDoor
open Go.RowKit Go.Proofs.Fd Go.Proofs.Dk Go.Proofs.Lg
set_option maxRecDepth 20000

set_option maxHeartbeats 2000000 in
theorem lread_any (w v : World) (p : Nat) (F : Nat → Prop) (s : St) (fr mn : Nat) (h1 : 1 ≤ mn) (h2 : fr + mn ≤ s.n) (h : Hid (Dl w v p F s)) :
    Calls Tryd.prog 50 #[plc p fr mn] v fun e w' => e = .returned (rdA s fr mn) ∧ Below v.heap.size v w' := by
  have OK := h.out.at_.1
  have hn := OK.n2
  have H64 : Hid (∀ k, (hb s fr k).length = 64 * k) := fun k => hb_len OK fr k
  have P64 : Hid (∀ k, (s.sh k).length = 64) := OK.sh64
  have RD : Hid (∀ (W : World) (k : Int), Below v.heap.size v W → Calls Tryd.prog 69 #[.pointer (some ⟨p, 0, none⟩), .int .i64 k] W fun e w' => e = .returned (.tuple #[.string (st (rdV s k)), .int .i64 (rch s k)]) ∧ w' = W) := fun W k hb => readL w W p F s k (h.out.later hb)
  have BK : Hid (_ ∧ _) := And.intro (Blk.new v [.pointer (some ⟨p, 0, none⟩), .int .i64 (fr : Int), .int .i64 (mn : Int)] 55 (by simp)) (nb v (.cells #[.pointer (some ⟨p, 0, none⟩), .int .i64 (fr : Int), .int .i64 (mn : Int)] 55))
  obtain ⟨va, hva⟩ : ∃ va, v.alloc (.cells #[.pointer (some ⟨p, 0, none⟩), .int .i64 (fr : Int), .int .i64 (mn : Int)] 55) = va := ⟨_, rfl⟩
  have hsz : va.heap.size = v.heap.size + 1 := by rw [← hva]; simp
  have BN : Hid (_ ∧ _) := And.intro (builder_new va) (nb va (.cells #[.pointer none, .slice none 0 0] 103))
  have WS : Hid (∀ (l m : Bs) (W : World), _) := builder_write (v.heap.size + 1)
  have SS : Hid (∀ (l : Bs) (W : World), _) := builder_string (v.heap.size + 1)
  obtain ⟨vb, hvb⟩ : ∃ vb, va.alloc (.cells #[.pointer none, .slice none 0 0] 103) = vb := ⟨_, rfl⟩
  have HSZ : Hid (vb.heap.size = v.heap.size + 2) := by
    show vb.heap.size = _
    rw [← hvb]
    simp [hsz]
  have BK' := BK.out
  have BN' := BN.out
  simp only [List.toArray] at BK'
  rw [hva] at BK'
  rw [hvb, hsz] at BN'
  have I0 : Hid (Blk vb v.heap.size [.pointer (some ⟨p, 0, none⟩), .int .i64 (fr : Int), .int .i64 (mn : Int)] ∧ Below v.heap.size v vb ∧ Lib.IsBuilder 103 5 (v.heap.size + 1) (v.heap.size + 1) (Lib.byteCells []) vb) := ⟨BK'.1.below BN'.2 (by omega), BK'.2.trans (BN'.2.mono (by omega)), BN'.1⟩
  clear BK' BN' BK BN OK
  unfold plc
  have g0 : (0 : Int) < (mn : Int) := by omega
  have gm : mn ≤ 1024 := by omega
  have gf : fr ≤ 1024 := by omega
  by_cases hd : s.down = true
  · have HR : Hid (rdA s fr mn = .tuple #[.string ⟨#[]⟩, .int .i64 150]) := if_pos hd
    have R1 : Hid (Calls Tryd.prog 69 #[.pointer (some ⟨p, 0, none⟩), .int .i64 (fr : Int)] vb fun e w' => e = .returned (.tuple #[.string (st (rdV s (fr : Int))), .int .i64 150]) ∧ w' = vb) := by
      have := RD.out vb (fr : Int) I0.out.2.1
      rw [rch_d hd] at this
      exact this
    obtain ⟨X, hX⟩ : ∃ X, st (rdV s (fr : Int)) = X := ⟨_, rfl⟩
    rw [hX] at R1
    have k0 := I0.out.1.c 0 _ rfl
    have k1 := I0.out.1.c 1 _ rfl
    have k2 := I0.out.1.c 2 _ rfl
    clear hX RD WS SS H64 P64
    go_enter Tryd.func50, Tryd.ntmps50
    go_wp2
    go_loopw [10] (fun i wr => i = .int .i64 0 ∧ wr = vb) (fun _ _ => 0)
    case atStart => exact ⟨rfl, rfl⟩
    case round =>
      obtain ⟨rfl, rfl⟩ := hrel
      go_wp2_with fail
      refine Calls.mono R1.out ?_
      rintro e w1 ⟨rfl, rfl⟩
      have FF : Hid (Below v.heap.size v w1) := I0.out.2.1
      clear I0
      go_wp2
      go_ret2
      exact ⟨by rw [HR.out]; rfl, FF.out⟩
  · have hd' : s.down = false := by simpa using hd
    have HR : Hid (rdA s fr mn = .tuple #[.string (st (hb s fr mn)), .int .i64 0]) := if_neg hd
    have R1 : Hid (∀ (W : World) (k : Nat), k < mn → Below v.heap.size v W → Calls Tryd.prog 69 #[.pointer (some ⟨p, 0, none⟩), .int .i64 ((fr : Int) + (k : Int))] W fun e w' => e = .returned (.tuple #[.string (st (s.sh (fr + k))), .int .i64 0]) ∧ w' = W) := fun W k hk hb => by
      have := RD.out W ((fr + k : Nat) : Int) hb
      rw [rch_in hd' (by omega), rdV_in hd' (by omega), show ((fr + k : Nat) : Int) = (fr : Int) + (k : Int) by omega] at this
      exact this
    have k2 := I0.out.1.c 2 _ rfl
    clear RD hd hd'
    go_enter Tryd.func50, Tryd.ntmps50
    go_wp2
    clear k2 hva hvb hsz
    go_loopw [10] (fun i wr => ∃ k : Nat, k ≤ mn ∧ i = .int .i64 (k : Int) ∧ Hid (Blk wr v.heap.size [.pointer (some ⟨p, 0, none⟩), .int .i64 (fr : Int), .int .i64 (mn : Int)] ∧ Below v.heap.size v wr ∧ Lib.IsBuilder 103 5 (v.heap.size + 1) (v.heap.size + 1) (Lib.byteCells (hb s fr k)) wr ∧ v.heap.size + 2 ≤ wr.heap.size)) (fun i _ => mn - (intOf i).toNat)
    case atStart => exact ⟨0, Nat.zero_le _, rfl, I0.out.1, I0.out.2.1, I0.out.2.2, by rw [HSZ.out]; exact Nat.le_refl _⟩
    case round =>
      obtain ⟨k, hk, rfl, I⟩ := hrel
      clear I0 HSZ
      by_cases hlt : k < mn
      · have g1 : (k : Int) < (mn : Int) := by omega
        have k0 := I.out.1.c 0 _ rfl
        have k1 := I.out.1.c 1 _ rfl
        have y1 : IntKind.i64.wrap ((fr : Int) + (k : Int)) = (fr : Int) + (k : Int) := by rw [IntKind.wrap_i64]; omega
        have HE : Hid (hb s fr (k + 1) = hb s fr k ++ s.sh (fr + k)) := hb_succ s fr k
        have R2 : Hid _ := R1.out wr k hlt I.out.2.1
        have W2 : Hid _ := WS.out (hb s fr k) (s.sh (fr + k)) wr I.out.2.2.1 (by rw [H64.out, P64.out]; omega) (by have := I.out.2.2.2; omega)
        obtain ⟨X, hX⟩ : ∃ X, st (s.sh (fr + k)) = X := ⟨_, rfl⟩
        rw [hX] at R2 W2
        clear hX
        go_wp2_with fail
        refine Calls.mono R2.out ?_
        rintro e w1 ⟨rfl, rfl⟩
        go_wp2_with fail
        refine Calls.mono W2.out ?_
        rintro e w2 ⟨rfl, b1, b2⟩
        have J : Hid (Blk w2 v.heap.size [.pointer (some ⟨p, 0, none⟩), .int .i64 (fr : Int), .int .i64 (mn : Int)] ∧ Below v.heap.size v w2 ∧ Lib.IsBuilder 103 5 (v.heap.size + 1) (v.heap.size + 1) (Lib.byteCells (hb s fr (k + 1))) w2 ∧ v.heap.size + 2 ≤ w2.heap.size) := ⟨I.out.1.below b2 (by omega), I.out.2.1.trans (b2.mono (by omega)), by rw [HE.out]; exact b1, by have := b2.size; have := I.out.2.2.2; omega⟩
        clear b1 b2 I
        go_wp2
        go_roundw
        case rel => exact ⟨k + 1, by omega, rfl, J.out⟩
        case measure => simp [intOf]; omega
      · obtain rfl : k = mn := by omega
        have S2 : Hid _ := SS.out (hb s fr k) wr I.out.2.2.1 (by have := I.out.2.2.2; omega)
        go_wp2_with fail
        refine Calls.mono S2.out ?_
        rintro e w2 ⟨rfl, b2⟩
        have FF : Hid (Below v.heap.size v w2) := I.out.2.1.trans (b2.mono (by omega))
        clear b2
        go_wp2
        go_ret2
        exact ⟨by rw [HR.out]; rfl, FF.out⟩
end Go.Proofs.YtdcimnmebgkmjaaDoor
