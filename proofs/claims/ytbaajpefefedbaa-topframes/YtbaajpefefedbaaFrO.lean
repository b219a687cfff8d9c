/- The program's frames of texts. -/
import Derived.Test.YtbaajpefefedbaaFrN
import Derived.Laws.MakeOwn
namespace Go.Proofs.Ytbaajpefefedbaa
open Go.RowKit Go.Proofs.Fd Go.Proofs.Fr
set_option maxRecDepth 20000

/-- Frames of texts, one behind the other. -/
def frs (ks : List ByteArray) : List UInt8 := ks.flatMap fun s => one s.data.toList
def tls (ks : List ByteArray) : List (List UInt8) := ks.map fun s => s.data.toList
theorem frs_ofl (ks : List ByteArray) : frs ks = ofl (tls ks) := by
  unfold frs ofl tls
  rw [List.flatMap_map]
theorem frs_step (ks : List ByteArray) (k : Nat) (hk : k < ks.length) : frs (ks.take (k + 1)) = frs (ks.take k) ++ one ks[k].data.toList := flat_step _ ks k hk
theorem frs_le (ks : List ByteArray) (k : Nat) : (frs (ks.take k)).length ≤ (frs ks).length := flat_le ks k
theorem frs_bulk (ks : List ByteArray) : (frs ks).length ≤ 4 * (ks.map fun s => s.size + 1).sum ∧ ks.length ≤ (ks.map fun s => s.size + 1).sum := by
  induction ks with
  | nil => exact ⟨Nat.le_refl _, Nat.le_refl _⟩
  | cons x r ih =>
    have e : frs (x :: r) = one x.data.toList ++ frs r := by unfold frs; rw [List.flatMap_cons]
    have e2 : x.data.toList.length = x.size := by simp
    rw [e, List.length_append, one_len, e2, List.map_cons, List.sum_cons, List.length_cons]
    omega
def fits (ks : List ByteArray) : Prop := ∀ s ∈ ks, s.size ≤ 4096
theorem be4_of (n : Nat) (h : n ≤ 4096) : bcells (be4 n) = [.int .u8 ((n : Int) / 16777216), .int .u8 ((n : Int) / 65536), .int .u8 ((n : Int) / 256), .int .u8 ((n : Int) % 256)] := by
  unfold bcells be4
  simp only [List.map_cons, List.map_nil, UInt8.toNat_ofNat']
  rw [show ((n / 16777216 % 2 ^ 8 : Nat) : Int) = (n : Int) / 16777216 by omega, show ((n / 65536 % 2 ^ 8 : Nat) : Int) = (n : Int) / 65536 by omega, show ((n / 256 % 2 ^ 8 : Nat) : Int) = (n : Int) / 256 by omega, show ((n % 2 ^ 8 : Nat) : Int) = (n : Int) % 256 by omega]
set_option maxHeartbeats 1000000 in
theorem Of_ok (a : Option Addr) (ks : List ByteArray) (n cap : Nat) (hn : Hid (ks.length = n)) (hn63 : n < 9223372036854775807) (hf : Hid (fits ks)) (hz : Hid ((frs ks).length ≤ 140737488355328)) (w : World) (hc : Hid (StrAt w a ks)) :
    Calls Try.prog 20 #[.slice a n cap] w fun e w' => e = .returned (.tuple #[.string ⟨(frs ks).toArray⟩, .int .i64 0]) ∧ Below w.heap.size w w' := by
  obtain ⟨i0, hi, hz0, hz1, hz2⟩ := info_parts infoByte
  go_enter Try.func20, Try.ntmps20
  go_wp2
  go_loopw [4, 13] (fun l i wr => ∃ k : Nat, k ≤ n ∧ i = .int .i64 (k : Int) ∧ l = .int .i64 ((frs (ks.take k)).length : Int) ∧ w = wr) (fun _ i _ => n - (intOf i).toNat)
  case atStart => exact ⟨0, Nat.zero_le _, rfl, rfl, rfl⟩
  case round =>
    obtain ⟨k, hk1, rfl, rfl, hw⟩ := hrel
    subst hw
    by_cases hlt : k < n
    · have hk' : k < ks.length := by have := hn.out; omega
      obtain ⟨b, o, rfl, hcell⟩ := hc.out k hk'
      obtain ⟨s, hs⟩ : ∃ s, ks[k] = s := ⟨_, rfl⟩
      have HF : Hid ((frs (ks.take (k + 1))).length = (frs (ks.take k)).length + (4 + s.size)) := by
        show _ = _
        rw [frs_step ks k hk', List.length_append, one_len, hs]; simp
      have HZ : Hid ((frs (ks.take (k + 1))).length ≤ 140737488355328) := Nat.le_trans (frs_le ks _) hz.out
      have h4 : ¬ (4096 : Int) < (s.size : Int) := by have := hf.out ks[k] (List.getElem_mem hk'); rw [hs] at this; omega
      rw [hs] at hcell
      obtain ⟨l, hl⟩ : ∃ l, (frs (ks.take k)).length = l := ⟨_, rfl⟩
      obtain ⟨l2, hl2⟩ : ∃ l, (frs (ks.take (k + 1))).length = l := ⟨_, rfl⟩
      rw [hl, hl2] at HF
      rw [hl2] at HZ
      have q0 := HF.out
      have q1 := HZ.out
      have z1 : IntKind.i64.wrap (4 + (s.size : Int)) = 4 + (s.size : Int) := by rw [IntKind.wrap_i64]; omega
      have z2 : IntKind.i64.wrap ((l : Int) + (4 + (s.size : Int))) = (l2 : Int) := by rw [IntKind.wrap_i64]; omega
      have g1 : (k : Int) < (n : Int) := by omega
      have HL2 : Hid ((frs (ks.take (k + 1))).length = l2) := hl2
      rw [hl]
      clear q0 q1 hl hl2 hs
      go_wp2
      go_roundw
      case rel => exact ⟨k + 1, by omega, by go_num, by rw [HL2.out], trivial⟩
      case measure => simp [intOf]; omega
    · obtain rfl : k = n := by omega
      have e0 : frs (ks.take k) = frs ks := by rw [List.take_of_length_le (by rw [hn.out]; exact Nat.le_refl _)]
      rw [e0]
      clear e0
      obtain ⟨L, hL⟩ : ∃ L, (frs ks).length = L := ⟨_, rfl⟩
      have HL : Hid ((frs ks).length = L) := hL
      rw [hL]
      have hzL : L ≤ 140737488355328 := by have := hz.out; omega
      clear hL
      have hm := run_make_own (P := Try.prog) w w.heap.size 59 5 i0 (.int .u8 0) 1 Try.underlying59 hi hz0 hz1 .i64 .i64 L (by rw [hz2]; omega) (by unfold maxLen; omega) (Nat.le_refl _)
      obtain ⟨W, hmk, hown, hgrown⟩ := hm
      have OW : Hid (W.ownsRow w.heap.size 5 1 (.slice (some ⟨w.heap.size, 0, none⟩) 0 L) 0 [] ∧ Below w.heap.size w W) := ⟨hown, (Below.refl _ _).grown hgrown (Nat.le_refl _) (fun k h => by cases h)⟩
      clear hown hgrown hlt
      go_wp2
      clear hmk
      go_loopw [7, 30] (fun sl i wr => ∃ k2 : Nat, k2 ≤ k ∧ i = .int .i64 (k2 : Int) ∧ Hid (wr.ownsRow w.heap.size 5 1 sl (frs (ks.take k2)).length (bcells (frs (ks.take k2))) ∧ Below w.heap.size w wr)) (fun _ i _ => k - (intOf i).toNat)
      case atStart => exact ⟨0, Nat.zero_le _, rfl, OW.out⟩
      case round =>
        obtain ⟨q, hq1, rfl, I⟩ := hrel
        clear OW
        by_cases hlt : q < k
        · have hk' : q < ks.length := by have := hn.out; omega
          obtain ⟨b, o, rfl, hcell⟩ := StrAt.later hc.out I.out.2 rfl q hk'
          obtain ⟨s, hs⟩ : ∃ s, ks[q] = s := ⟨_, rfl⟩
          have HF : Hid (frs (ks.take (q + 1)) = frs (ks.take q) ++ (be4 s.size ++ s.data.toList)) := by
            show _ = _
            rw [frs_step ks q hk', hs]; unfold one; simp
          have h4 : s.size ≤ 4096 := by have := hf.out ks[q] (List.getElem_mem hk'); rw [hs] at this; exact this
          have HZ : Hid ((frs (ks.take q)).length + (4 + s.size) ≤ 140737488355328) := by
            have h1 := frs_le ks (q + 1)
            have h2 := hz.out
            have h5 := congrArg List.length HF.out
            rw [List.length_append, List.length_append, be4_len] at h5
            have h6 : s.data.toList.length = s.size := by simp
            show _ ≤ _
            omega
          have HBE : Hid (bcells (be4 s.size) = [.int .u8 ((s.size : Int) / 16777216), .int .u8 ((s.size : Int) / 65536), .int .u8 ((s.size : Int) / 256), .int .u8 ((s.size : Int) % 256)]) := be4_of s.size h4
          rw [hs] at hcell
          have g1 : (q : Int) < (k : Int) := by omega
          obtain ⟨P0, hP0⟩ : ∃ P, frs (ks.take q) = P := ⟨_, rfl⟩
          rw [hP0] at I HF HZ
          clear hP0 hs
          go_wp2_with (first
            | (at_builtin; refine wpList_append_own _ rfl _ _ 59 rfl w.heap.size 5 i0 (.int .u8 0) 1 1 Try.underlying59 hi hz0 hz1 hz2 rfl (by decide) _ _ _ rfl (I.out.1.alloc _) ⟨wr.heap.size, 0, none⟩ 4 4 [.int .u8 ((s.size : Int) / 16777216), .int .u8 ((s.size : Int) / 65536), .int .u8 ((s.size : Int) / 256), .int .u8 ((s.size : Int) % 256)] rfl rfl (cells_new _ _ _) (by intro u hu; simp at hu; rcases hu with rfl | rfl | rfl | rfl <;> rfl) (by have := HZ.out; unfold maxLen; omega) (by have := HZ.out; omega) (by have := I.out.2.size; simp; omega) ?_; intro v1 w1 hown1 hgrow1 hnil1; have O1 : Hid (w1.ownsRow w.heap.size 5 1 v1 (P0.length + 4) (bcells (P0 ++ be4 s.size)) ∧ Below w.heap.size w w1) := ⟨by rw [bcells_app, HBE.out]; exact hown1, (I.out.2.alloc I.out.2.size _).grown hgrow1 (by have := I.out.2.size; simp; omega) (fun j hj => (I.out.1.lt j hj).1)⟩; clear hown1 hgrow1 hnil1)
            | (at_builtin; refine Go.Lib.wpList_append_own_string _ rfl _ _ 59 9 rfl w.heap.size 5 i0 Try.underlying59 Try.underlying9 hi hz0 hz1 hz2 _ _ _ rfl O1.out.1 s rfl (by have := HZ.out; unfold maxLen; omega) (by have := HZ.out; omega) O1.out.2.size ?_; intro v2 w2 hown2 hgrow2 hnil2))
          have FI : Hid (w2.ownsRow w.heap.size 5 1 v2 (P0.length + (4 + s.size)) (bcells (P0 ++ (be4 s.size ++ s.data.toList))) ∧ Below w.heap.size w w2) := by
            refine ⟨?_, O1.out.2.grown hgrow2 O1.out.2.size (fun j hj => (O1.out.1.lt j hj).1)⟩
            rw [strCells_eq, ← bcells_app, List.append_assoc, Nat.add_assoc] at hown2
            exact hown2
          clear hown2 hgrow2 hnil2
          go_roundw
          case rel =>
            refine ⟨q + 1, by omega, by go_num, ?_, FI.out.2⟩
            rw [HF.out, List.length_append, List.length_append, be4_len, show s.data.toList.length = s.size by simp]
            exact FI.out.1
          case measure => simp [intOf]; omega
        · obtain rfl : q = k := by omega
          have e0 : frs (ks.take q) = frs ks := by rw [List.take_of_length_le (by rw [hn.out]; exact Nat.le_refl _)]
          rw [e0] at I
          have CV := own_string I.out.1 wr (Below.refl _ _)
          clear e0
          go_wp2
          go_ret2
          exact ⟨rfl, I.out.2⟩
theorem not_fits {ks : List ByteArray} (h : ¬ fits ks) : ∃ (m : Nat) (hm : m < ks.length), 4096 < ks[m].size ∧ ∀ j (hj : j < m), ks[j].size ≤ 4096 := by
  induction ks with
  | nil => exact absurd (fun s hs => by cases hs) h
  | cons x r ih =>
    by_cases q : x.size ≤ 4096
    · have h' : ¬ fits r := fun z => h (fun s hs => by
        rcases List.mem_cons.1 hs with rfl | hs
        · exact q
        · exact z s hs)
      obtain ⟨m, hm, h1, h2⟩ := ih h'
      refine ⟨m + 1, by simp; omega, by simpa using h1, fun j hj => ?_⟩
      cases j with
      | zero => simpa using q
      | succ j => simpa using h2 j (by omega)
    · exact ⟨0, by simp, by simp; omega, fun j hj => absurd hj (Nat.not_lt_zero _)⟩
set_option maxHeartbeats 1000000 in
theorem Of_no (a : Option Addr) (ks : List ByteArray) (n cap : Nat) (hn : Hid (ks.length = n)) (hn63 : n < 9223372036854775807) (hf : Hid (¬ fits ks)) (w : World) (hc : Hid (StrAt w a ks)) :
    Calls Try.prog 20 #[.slice a n cap] w fun e w' => e = .returned (.tuple #[.string ⟨#[]⟩, .int .i64 2]) ∧ Below w.heap.size w w' := by
  obtain ⟨m, hm, h1, h2⟩ := not_fits hf.out
  have H2 : Hid (∀ j (hj : j < m), ks[j].size ≤ 4096) := h2
  have H1 : Hid (4096 < ks[m].size) := h1
  clear h1 h2 hf
  go_enter Try.func20, Try.ntmps20
  go_wp2
  go_loopw [4, 13] (fun l i wr => ∃ (k : Nat) (L : Int), k ≤ m ∧ i = .int .i64 (k : Int) ∧ l = .int .i64 L ∧ w = wr) (fun _ i _ => m + 1 - (intOf i).toNat)
  case atStart => exact ⟨0, 0, Nat.zero_le _, rfl, rfl, rfl⟩
  case round =>
    obtain ⟨k, L, hk1, rfl, rfl, hw⟩ := hrel
    subst hw
    have hk' : k < ks.length := by omega
    obtain ⟨b, o, rfl, hcell⟩ := hc.out k hk'
    have g1 : (k : Int) < (n : Int) := by have := hn.out; omega
    by_cases hlt : k < m
    · have h4 : ¬ (4096 : Int) < (ks[k].size : Int) := by have := H2.out k hlt; omega
      obtain ⟨s, hs⟩ : ∃ s, ks[k] = s := ⟨_, rfl⟩
      rw [hs] at hcell h4
      clear hs
      go_wp2
      go_roundw
      case rel => exact ⟨k + 1, _, by omega, by go_num, rfl, trivial⟩
      case measure => simp [intOf]; omega
    · obtain rfl : k = m := by omega
      have h4 : (4096 : Int) < (ks[k].size : Int) := by have := H1.out; omega
      obtain ⟨s, hs⟩ : ∃ s, ks[k] = s := ⟨_, rfl⟩
      rw [hs] at hcell h4
      clear hs
      go_wp2
      go_ret2
      exact ⟨rfl, Below.refl _ _⟩
end Go.Proofs.Ytbaajpefefedbaa
