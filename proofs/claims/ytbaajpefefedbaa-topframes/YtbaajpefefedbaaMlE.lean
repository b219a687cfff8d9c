/- The program's texts: pieces one behind the other, and bytes 0 behind them. -/
import Derived.Test.YtbaajpefefedbaaMlD
namespace Go.Proofs.Ytbaajpefefedbaa
open Go.RowKit Go.Proofs.Fd Go.Proofs.Ml
set_option maxRecDepth 20000

theorem mslice_from (g len n a : Nat) (hn : n ≤ len) (ha : (if len = n then 0 else n) = a) (w : World) :
    (Instr.slice 59 (.slice (some ⟨g, 0, none⟩) len len) (some (.int .i64 (n : Int))) none none).run Try.prog w = .ok (.slice (some ⟨g, a, none⟩) (len - n) (len - n)) w := by
  have h1 : (n : Int) ≤ (len : Int) := by omega
  by_cases q : len = n
  · rw [if_pos q] at ha
    subst ha
    subst q
    simp [go_sem]
  · rw [if_neg q] at ha
    subst ha
    simp [go_sem, h1, q]
theorem flat_take (ks : List ByteArray) (k : Nat) (hk : k < ks.length) : flat (ks.take (k + 1)) = flat (ks.take k) ++ by' ks[k] := flat_step by' ks k hk
theorem flat_some (ks : List ByteArray) (k : Nat) : (flat (ks.take k)).length ≤ (flat ks).length := flat_le ks k
theorem pad_laid (n : Nat) (l x : List UInt8) : (pad n l).take l.length ++ x ++ (pad n l).drop (l.length + x.length) = pad n (l ++ x) := by
  unfold pad
  rw [List.take_left, ← List.drop_drop, List.drop_left, List.length_append]
  show l ++ x ++ (zr _).drop _ = l ++ x ++ zr _
  rw [zr_drop, Nat.sub_sub]
theorem below_cells {B : Nat} {a w : World} {b : Nat} (hb : B ≤ b) (o : Nat) (vs : List Value) (h : Below B a w) : Below B a (w.setCells b o vs) := below_setCells hb _ _ _ h
set_option maxHeartbeats 1000000 in
theorem write_any (L : Nat) (a : Option Addr) (ks : List ByteArray) (n cap : Nat) (hn : Hid (ks.length = n)) (hm : n < 9223372036854775807) (hz : Hid ((flat ks).length ≤ L)) (hL : L ≤ 1000000) (w : World) (hc : Hid (StrAt w a ks)) :
    Calls Try.prog 26 #[.int .i64 (L : Int), .slice a n cap] w fun e w' => e = .returned (.string (mk (pad L (flat ks)))) ∧ Below w.heap.size w w' := by
  obtain ⟨S, hS⟩ : ∃ S, mk (pad L (flat ks)) = S := ⟨_, rfl⟩
  have HS : Hid (mk (pad L (flat ks)) = S) := hS
  rw [hS]
  clear hS
  obtain ⟨W, CM, BW, bW, -⟩ := make_n L (by omega) w
  obtain ⟨B, hB⟩ : ∃ B, w.heap.size = B := ⟨_, rfl⟩
  have I0 : Hid (BytesAt W B (pad L (flat (ks.take 0))) ∧ Below B w W) := by
    refine ⟨?_, hB ▸ bW⟩
    rw [List.take_zero, flat_nil, pad_nil, ← hB]
    exact BW
  have HB : Hid (w.heap.size = B) := hB
  rw [hB] at CM
  clear BW bW hB
  go_enter Try.func26, Try.ntmps26
  go_wp2
  go_loopw [6, 13] (fun at' i wr => ∃ k : Nat, k ≤ n ∧ i = .int .i64 (k : Int) ∧ at' = .int .i64 ((flat (ks.take k)).length : Int) ∧ Hid (BytesAt wr B (pad L (flat (ks.take k))) ∧ Below B w wr)) (fun _ i _ => n - (intOf i).toNat)
  case atStart => exact ⟨0, Nat.zero_le _, rfl, rfl, I0.out⟩
  case round =>
    obtain ⟨k, hk, rfl, rfl, I⟩ := hrel
    clear I0 CM
    by_cases hlt : k < n
    · have hk' : k < ks.length := by rw [hn.out]; exact hlt
      have g1 : (k : Int) < (n : Int) := by omega
      obtain ⟨b, o, rfl, cx⟩ := hc.out.later (HB.out ▸ I.out.2) rfl k hk'
      obtain ⟨x, hx⟩ : ∃ x, ks[k] = x := ⟨_, rfl⟩
      rw [hx] at cx
      have e1 : (flat (ks.take (k + 1))).length ≤ L := Nat.le_trans (flat_some _ _) hz.out
      have e2 := flat_take ks k hk'
      rw [hx] at e2
      have e3 : (flat (ks.take (k + 1))).length = (flat (ks.take k)).length + x.size := by rw [e2, List.length_append, by_len]
      obtain ⟨at0, hat⟩ : ∃ c, (flat (ks.take k)).length = c := ⟨_, rfl⟩
      obtain ⟨a1, ha1⟩ : ∃ a, (if L = at0 then 0 else at0) = a := ⟨_, rfl⟩
      have SL := mslice_from B L at0 a1 (by omega) ha1
      have hy := I.out.1
      have lp := pad_len L (flat (ks.take k)) (by omega)
      obtain ⟨V, CP, I2⟩ : ∃ V, (Builtin.copy_ #[59, 9] 3 #[.slice (some ⟨B, a1, none⟩) (L - at0) (L - at0), .string x]).run Try.prog wr = .ok (.int .i64 (x.size : Int)) V ∧ Hid (BytesAt V B (pad L (flat (ks.take (k + 1)))) ∧ Below B w V) := by
        by_cases q : L = at0
        · rw [if_pos q] at ha1
          subst ha1
          have hx0 : x.size = 0 := by omega
          have CP := copy_at wr B 0 (L - at0) (L - at0) x x.size (Nat.min_eq_left (by omega)) (fun j hj => by omega) (fun j hj => by omega)
          have xe : by' x = [] := List.length_eq_zero_iff.1 (by rw [by_len]; exact hx0)
          refine ⟨wr, ?_, ?_, I.out.2⟩
          · have : ((by' x).take x.size).map (fun x => Value.int .u8 (x.toNat : Int)) = [] := by rw [xe]; simp
            rw [CP]
            show Result.ok _ (wr.setCells B 0 (((by' x).take x.size).map (fun x => Value.int .u8 (x.toNat : Int)))) = _
            rw [this]
            rfl
          · rw [e2, xe, List.append_nil]; exact hy
        · rw [if_neg q] at ha1
          subst ha1
          have CP := copy_at wr B at0 (L - at0) (L - at0) x x.size (Nat.min_eq_left (by omega)) (fun j hj => by rw [(hy (at0 + j) (by omega)).1]; rfl) (fun j hj => (hy (at0 + j) (by omega)).2)
          rw [List.take_of_length_le (by simp)] at CP
          refine ⟨_, CP, ?_, below_cells (Nat.le_refl _) _ _ I.out.2⟩
          have BF := hy.copied at0 (by' x) (by rw [lp, by_len]; omega)
          have pl := pad_laid L (flat (ks.take k)) (by' x)
          rw [hat] at pl
          rw [pl, ← e2] at BF
          exact BF
      have HA : Hid ((flat (ks.take (k + 1))).length = at0 + x.size ∧ at0 + x.size ≤ L) := ⟨by omega, by omega⟩
      obtain ⟨z, hz2⟩ : ∃ z, L - at0 = z := ⟨_, rfl⟩
      rw [hz2] at SL CP
      rw [hat]
      have w1 : IntKind.i64.wrap ((at0 : Int) + (x.size : Int)) = ((at0 + x.size : Nat) : Int) := by rw [IntKind.wrap_i64]; omega
      clear I e1 e2 e3 hat ha1 hy lp hz2 hx
      go_wp2
      go_roundw
      case rel => exact ⟨k + 1, by omega, by go_num, by rw [HA.out.1, Int.natCast_add], I2.out⟩
      case measure => simp [intOf]; omega
    · obtain rfl : k = n := by omega
      have CV : (convert 59 9 (.slice (some ⟨B, 0, none⟩) L L)).run Try.prog wr = .ok (.string S) wr := by
        rw [← HS.out]
        have h := I.out.1
        rw [List.take_of_length_le (by rw [hn.out]; exact Nat.le_refl _)] at h
        exact h.string (pad_len _ _ hz.out)
      have BF : Hid (Below B w wr) := I.out.2
      clear I
      go_wp2
      go_ret
      exact ⟨rfl, HB.out ▸ BF.out⟩
end Go.Proofs.Ytbaajpefefedbaa
