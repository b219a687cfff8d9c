/- The program's texts: bytes of numbers, what leads, pieces one behind the other. -/
import Derived.Test.YtbaajpefefedbaaMlC
namespace Go.Proofs.Ytbaajpefefedbaa
open Go.RowKit Go.Proofs.Fd Go.Proofs.Ml
set_option maxRecDepth 20000

/-- Numbers that lie in a row. -/
def NumAt (w : World) (a : Option Addr) (cs : List Int) : Prop := ∀ i (hi : i < cs.length), ∃ b o, a = some ⟨b, o, none⟩ ∧ w.cell? ⟨b, o + i, none⟩ = some (.int .i64 cs[i])
theorem NumAt.later {W w1 : World} {a : Option Addr} {cs : List Int} (h : NumAt W a cs) (hb : Below W.heap.size W w1) : NumAt w1 a cs := fun i hi => by
  obtain ⟨b, o, e, hc⟩ := h i hi
  exact ⟨b, o, e, cell_later hb hc⟩
theorem pad_step (n k : Nat) (l : List UInt8) (x : UInt8) (hl : l.length = k) (hk : k < n) : (pad n l).set k x = pad n (l ++ [x]) := by
  unfold pad
  obtain ⟨d, hd⟩ : ∃ d, n - l.length = d + 1 := ⟨n - l.length - 1, by omega⟩
  have hd2 : n - (l ++ [x]).length = d := by simp; omega
  rw [hd, hd2, List.set_append_right _ _ (by omega), hl, Nat.sub_self, List.append_assoc]
  rfl
theorem pad_nil (n : Nat) : pad n [] = List.replicate n 0 := by unfold pad; simp
set_option maxHeartbeats 1000000 in
theorem inBytes_any (a : Option Addr) (cs : List Int) (n cap : Nat) (hn : Hid (cs.length = n)) (hz : n ≤ 1000) (w : World) (hc : Hid (NumAt w a cs)) :
    Calls Try.prog 27 #[.slice a n cap] w fun e w' => e = .returned (.string (mk (cs.map b8))) ∧ Below w.heap.size w w' := by
  obtain ⟨S, hS⟩ : ∃ S, mk (cs.map b8) = S := ⟨_, rfl⟩
  have HS : Hid (mk (cs.map b8) = S) := hS
  rw [hS]
  clear hS
  obtain ⟨W, CM, BW, bW, -⟩ := make_n n (by omega) w
  obtain ⟨B, hB⟩ : ∃ B, w.heap.size = B := ⟨_, rfl⟩
  have I0 : Hid (BytesAt W B (pad n ((cs.take 0).map b8)) ∧ Below B w W) := by
    refine ⟨?_, hB ▸ bW⟩
    rw [List.take_zero, List.map_nil, pad_nil, ← hB]
    exact BW
  have HB : Hid (w.heap.size = B) := hB
  rw [hB] at CM
  clear BW bW hB
  go_enter Try.func27, Try.ntmps27
  go_wp2
  go_loopw [11] (fun i wr => ∃ k : Nat, k ≤ n ∧ i = .int .i64 (k : Int) ∧ Hid (BytesAt wr B (pad n ((cs.take k).map b8)) ∧ Below B w wr)) (fun i _ => n - (intOf i).toNat)
  case atStart => exact ⟨0, Nat.zero_le _, rfl, I0.out⟩
  case round =>
    obtain ⟨k, hk, rfl, I⟩ := hrel
    clear I0 CM
    by_cases hlt : k < n
    · have hk' : k < cs.length := by rw [hn.out]; exact hlt
      have g1 : (k : Int) < (n : Int) := by omega
      have hl : ((cs.take k).map b8).length = k := by rw [List.length_map, List.length_take]; omega
      obtain ⟨b, o, rfl, cx⟩ := hc.out.later (HB.out ▸ I.out.2) k hk'
      obtain ⟨x, hx⟩ : ∃ x, cs[k] = x := ⟨_, rfl⟩
      obtain ⟨vx, c1, f1⟩ := I.out.1.cell k (by rw [pad_len _ _ (by omega)]; exact hlt)
      rw [hx] at cx
      have I2 : Hid (BytesAt (wr.setCell ⟨B, k, none⟩ (.int .u8 (x % 256))) B (pad n ((cs.take (k + 1)).map b8)) ∧ Below B w (wr.setCell ⟨B, k, none⟩ (.int .u8 (x % 256)))) := by
        refine ⟨?_, I.out.2.setCell (p := ⟨B, k, none⟩) (Nat.le_refl _) _⟩
        rw [List.take_succ_eq_append_getElem hk', List.map_append, hx, List.map_singleton, ← pad_step n k _ (b8 x) hl hlt]
        exact I.out.1.set k (b8 x) _ (by rw [b8_nat]; omega)
      have HX : Hid (cs[k] = x) := hx
      clear I hl hx
      go_wp2
      go_roundw
      case rel => exact ⟨k + 1, by omega, by go_num, I2.out⟩
      case measure => simp [intOf]; omega
    · obtain rfl : k = n := by omega
      have CV : (convert 59 9 (.slice (some ⟨B, 0, none⟩) k k)).run Try.prog wr = .ok (.string S) wr := by
        rw [← HS.out]
        have h := I.out.1
        have e : pad k ((cs.take k).map b8) = cs.map b8 := by
          rw [List.take_of_length_le (by rw [hn.out]; exact Nat.le_refl _)]
          unfold pad
          rw [List.length_map, hn.out, Nat.sub_self]; simp
        rw [e] at h
        exact h.string (by rw [List.length_map, hn.out])
      have BF : Hid (Below B w wr) := I.out.2
      clear I
      go_wp2
      go_ret
      exact ⟨rfl, HB.out ▸ BF.out⟩
theorem numAt1 {w : World} {B : Nat} {x : Int} (h0 : w.cell? ⟨B, 0, none⟩ = some (.int .i64 x)) : NumAt w (some ⟨B, 0, none⟩) [x] := fun i hi => by
  refine ⟨B, 0, rfl, ?_⟩
  obtain rfl : i = 0 := by simp at hi; omega
  exact h0
theorem numAt6 {w : World} {B : Nat} {x0 x1 x2 x3 x4 x5 : Int} (h0 : w.cell? ⟨B, 0, none⟩ = some (.int .i64 x0)) (h1 : w.cell? ⟨B, 1, none⟩ = some (.int .i64 x1)) (h2 : w.cell? ⟨B, 2, none⟩ = some (.int .i64 x2)) (h3 : w.cell? ⟨B, 3, none⟩ = some (.int .i64 x3)) (h4 : w.cell? ⟨B, 4, none⟩ = some (.int .i64 x4)) (h5 : w.cell? ⟨B, 5, none⟩ = some (.int .i64 x5)) : NumAt w (some ⟨B, 0, none⟩) [x0, x1, x2, x3, x4, x5] := fun i hi => by
  refine ⟨B, 0, rfl, ?_⟩
  rcases (by simp at hi; omega : i = 0 ∨ i = 1 ∨ i = 2 ∨ i = 3 ∨ i = 4 ∨ i = 5) with rfl | rfl | rfl | rfl | rfl | rfl
  · exact h0
  · exact h1
  · exact h2
  · exact h3
  · exact h4
  · exact h5
/-- What stands ahead of all else. -/
def ldl (k u q : Int) : List UInt8 := if k = 1 then [1] else [b8 k, b8 u, b8 (q / 16777216), b8 (q / 65536), b8 (q / 256), b8 q]
set_option maxHeartbeats 1000000 in
theorem lead_any (k u q : Int) (t g : ByteArray) (a : Option Addr) (n c : Nat) (a2 : Option Addr) (n2 c2 : Nat) (w : World) :
    Calls Try.prog 25 #[mv k u q t g a n c a2 n2 c2] w fun e w' => e = .returned (.string (mk (ldl k u q))) ∧ Below w.heap.size w w' := by
  unfold ldl
  by_cases h1 : k = 1
  · subst h1
    rw [if_pos rfl]
    go_enter Try.func25, Try.ntmps25
    go_wp2_with fail
    refine Calls.mono (inBytes_any _ [1] 1 1 rfl (by decide) _ (numAt1 (by simp [go_sem]))) ?_
    rintro e w1 ⟨rfl, hb1⟩
    have B1 : Hid (Below w.heap.size w w1) := chain (((Below.refl _ w).alloc (Nat.le_refl _) _).alloc (by simp) _) hb1
    clear hb1
    go_wp2
    go_ret
    exact ⟨rfl, B1.out⟩
  · rw [if_neg h1]
    go_enter Try.func25, Try.ntmps25
    go_wp2_with fail
    refine Calls.mono (inBytes_any _ [k, u, q / 16777216, q / 65536, q / 256, q] 6 6 rfl (by decide) _ (numAt6 (by simp [go_sem]) (by simp [go_sem]) (by simp [go_sem]) (by simp [go_sem]) (by simp [go_sem]) (by simp [go_sem]))) ?_
    rintro e w1 ⟨rfl, hb1⟩
    have B1 : Hid (Below w.heap.size w w1) := chain (((Below.refl _ w).alloc (Nat.le_refl _) _).alloc (by simp) _) hb1
    clear hb1
    go_wp2
    go_ret
    exact ⟨rfl, B1.out⟩
end Go.Proofs.Ytbaajpefefedbaa
