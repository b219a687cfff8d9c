/- Messages that are the same; the chapter's example. -/
import Derived.Test.YtbaajpefefedbaaMlN
namespace Go.Proofs.Ytbaajpefefedbaa
open Go.RowKit Go.Proofs.Fd Go.Proofs.Ml
set_option maxRecDepth 20000

set_option maxHeartbeats 1000000 in
theorem sameTexts_yes (a : Option Addr) (n c : Nat) (b : Option Addr) (c' : Nat) (is : List ByteArray) (hn : Hid (is.length = n)) (hm : n ≤ 9223372036854775807) (w : World) (h1 : Hid (StrAt w a is)) (h2 : Hid (StrAt w b is)) :
    Calls Try.prog 33 #[.slice a n c, .slice b n c'] w fun e w' => e = .returned (.bool true) ∧ Below w.heap.size w w' := by
  go_enter Try.func33, Try.ntmps33
  go_wp2
  go_loopw [5] (fun i wr => ∃ k : Nat, k ≤ n ∧ i = .int .i64 (k : Int) ∧ Hid (Below w.heap.size w wr)) (fun i _ => n - (intOf i).toNat)
  case atStart => exact ⟨0, Nat.zero_le _, rfl, Below.refl _ _⟩
  case round =>
    obtain ⟨k, hk, rfl, I⟩ := hrel
    by_cases hlt : k < n
    · have g1 : (k : Int) < (n : Int) := by omega
      have hk' : k < is.length := by rw [hn.out]; exact hlt
      obtain ⟨b1, o1, rfl, x1⟩ := h1.out.later I.out rfl k hk'
      obtain ⟨b2, o2, rfl, x2⟩ := h2.out.later I.out rfl k hk'
      obtain ⟨x, hx⟩ : ∃ x, is[k] = x := ⟨_, rfl⟩
      rw [hx] at x1 x2
      have YY : (x.toList == x.toList) = true := by simp
      have gk : k < n := hlt
      clear hx
      go_wp2_with fail
      go_quiet (fail)
      have I2 : Hid (Below w.heap.size w (wr.drewN nq)) := below_drewN I.out _
      clear x1 x2 I
      go_wp2
      go_roundw
      case rel => exact ⟨k + 1, by omega, by go_num, I2.out⟩
      case measure => simp [intOf]; omega
    · obtain rfl : k = n := by omega
      go_wp2
      go_ret
      exact ⟨rfl, I.out⟩
set_option maxHeartbeats 1000000 in
theorem sameSlots_yes (a : Option Addr) (n c : Nat) (b : Option Addr) (c' : Nat) (ss : List Sl) (hn : Hid (ss.length = n)) (hm : n ≤ 9223372036854775807) (w : World) (h1 : Hid (SlAt w a ss)) (h2 : Hid (SlAt w b ss)) :
    Calls Try.prog 32 #[.slice a n c, .slice b n c'] w fun e w' => e = .returned (.bool true) ∧ Below w.heap.size w w' := by
  go_enter Try.func32, Try.ntmps32
  go_wp2
  go_loopw [5] (fun i wr => ∃ k : Nat, k ≤ n ∧ i = .int .i64 (k : Int) ∧ Hid (Below w.heap.size w wr)) (fun i _ => n - (intOf i).toNat)
  case atStart => exact ⟨0, Nat.zero_le _, rfl, Below.refl _ _⟩
  case round =>
    obtain ⟨k, hk, rfl, I⟩ := hrel
    by_cases hlt : k < n
    · have g1 : (k : Int) < (n : Int) := by omega
      have hk' : k < ss.length := by rw [hn.out]; exact hlt
      obtain ⟨b1, o1, rfl, x1, y1⟩ := h1.out.later I.out k hk'
      obtain ⟨b2, o2, rfl, x2, y2⟩ := h2.out.later I.out k hk'
      generalize ss[k] = s at x1 y1 x2 y2
      obtain ⟨id, tx⟩ := s
      simp only at x1 y1 x2 y2
      have YY : (id.toList == id.toList) = true := by simp
      have ZZ : (tx.toList == tx.toList) = true := by simp
      have gk : k < n := hlt
      go_wp2_with fail
      go_quiet (fail)
      have I2 : Hid (Below w.heap.size w (wr.drewN nq)) := below_drewN I.out _
      clear x1 x2 y1 y2 I
      go_wp2
      go_roundw
      case rel => exact ⟨k + 1, by omega, by go_num, I2.out⟩
      case measure => simp [intOf]; omega
    · obtain rfl : k = n := by omega
      go_wp2
      go_ret
      exact ⟨rfl, I.out⟩
set_option maxHeartbeats 1000000 in
theorem sameMail_raw (k u q : Int) (t g : ByteArray) (a : Option Addr) (n c : Nat) (a2 : Option Addr) (n2 c2 : Nat) (b : Option Addr) (d : Nat) (b2 : Option Addr) (d2 : Nat) (ss : List Sl) (is : List ByteArray) (w : World) (L1 : Hid (Lists w a n c a2 n2 c2 ss is)) (L2 : Hid (Lists w b n d b2 n2 d2 ss is)) :
    Calls Try.prog 15 #[mv k u q t g a n c a2 n2 c2, mv k u q t g b n d b2 n2 d2] w fun e w' => e = .returned (.bool true) ∧ Below w.heap.size w w' := by
  have T1 : (t.toList == t.toList) = true := by simp
  have T2 : (g.toList == g.toList) = true := by simp
  go_enter Try.func15, Try.ntmps15
  go_wp2_with fail
  obtain ⟨X, hX⟩ : ∃ X, (w.alloc (.cells #[.int .i64 k, .int .i64 u, .int .i64 q, .string t, .string g, .slice a n c, .slice a2 n2 c2] 25)).alloc (.cells #[.int .i64 k, .int .i64 u, .int .i64 q, .string t, .string g, .slice b n d, .slice b2 n2 d2] 25) = X := ⟨_, rfl⟩
  have F0 : Hid (Below w.heap.size w X ∧ MlAt X w.heap.size k u q t g a n c a2 n2 c2 ∧ MlAt X (w.heap.size + 1) k u q t g b n d b2 n2 d2) := by
    rw [← hX]
    refine ⟨((Below.refl _ w).alloc (Nat.le_refl _) _).alloc (by simp) _, (MlAt.new w _ _ _ _ _ _ _ _ _ _ _ _).later ((Below.refl _ _).alloc (Nat.le_refl _) _), ?_⟩
    have := MlAt.new (w.alloc (.cells #[.int .i64 k, .int .i64 u, .int .i64 q, .string t, .string g, .slice a n c, .slice a2 n2 c2] 25)) 25 k u q t g b n d b2 n2 d2
    rw [show (w.alloc (.cells #[.int .i64 k, .int .i64 u, .int .i64 q, .string t, .string g, .slice a n c, .slice a2 n2 c2] 25)).heap.size = w.heap.size + 1 by simp] at this
    exact this
  rw [hX]
  clear hX
  refine Calls.mono (sameSlots_yes a n c b d ss L1.out.ls L1.out.ms X (L1.out.later F0.out.1).s (L2.out.later F0.out.1).s) ?_
  rintro e w1 ⟨rfl, hb1⟩
  have F1 : Hid (Below w.heap.size w w1 ∧ MlAt w1 w.heap.size k u q t g a n c a2 n2 c2 ∧ MlAt w1 (w.heap.size + 1) k u q t g b n d b2 n2 d2) := ⟨chain F0.out.1 hb1, F0.out.2.1.later hb1, F0.out.2.2.later hb1⟩
  clear hb1 F0
  obtain ⟨-, p0, p1, p2, p3, p4, p5, p6⟩ := F1.out.2.1
  obtain ⟨-, q0, q1, q2, q3, q4, q5, q6⟩ := F1.out.2.2
  go_wp2_with fail
  refine Calls.mono (sameTexts_yes a2 n2 c2 b2 d2 is L1.out.li L1.out.mi w1 (L1.out.later F1.out.1).i (L2.out.later F1.out.1).i) ?_
  rintro e w2 ⟨rfl, hb2⟩
  have F2 : Hid (Below w.heap.size w w2) := chain F1.out.1 hb2
  clear hb2 F1 p0 p1 p2 p3 p4 p5 p6 q0 q1 q2 q3 q4 q5 q6
  go_wp2
  go_ret
  exact ⟨rfl, F2.out⟩
theorem sameMail_yes (v v' : Value) (m : Ml) (w : World) (h1 : MlV w v m) (h2 : MlV w v' m) :
    Calls Try.prog 15 #[v, v'] w fun e w' => e = .returned (.bool true) ∧ Below w.heap.size w w' := by
  obtain ⟨a, n, c, a2, n2, c2, rfl, L⟩ := h1
  obtain ⟨b, n', d, b2, n2', d2, rfl, L'⟩ := h2
  obtain rfl : n' = n := L'.ls.symm.trans L.ls
  obtain rfl : n2' = n2 := L'.li.symm.trans L.li
  exact sameMail_raw m.k m.u m.q m.t m.g a n' c a2 n2' c2 b d b2 d2 m.sl m.ids w L L'
/-- What Encode tells. -/
def enS (m : Ml) : ByteArray := if okB m = true then mk (txt m) else e0
theorem encode_any (k u q : Int) (t g : ByteArray) (a : Option Addr) (n c : Nat) (a2 : Option Addr) (n2 c2 : Nat) (ss : List Sl) (is : List ByteArray) (w : World) (L : Lists w a n c a2 n2 c2 ss is) :
    Calls Try.prog 9 #[mv k u q t g a n c a2 n2 c2] w fun e w' => e = .returned (.tuple #[.string (enS ⟨k, u, q, t, g, ss, is⟩), .int .i64 (chkE (okB ⟨k, u, q, t, g, ss, is⟩))]) ∧ Below w.heap.size w w' := by
  unfold enS
  cases h : okB ⟨k, u, q, t, g, ss, is⟩ with
  | true => exact encode_ok k u q t g a n c a2 n2 c2 ss is h w L
  | false => exact encode_no k u q t g a n c a2 n2 c2 ss is h w L
theorem z32 : mk (zr 32) = ⟨#[0, 0, 0, 0, 0, 0, 0, 0, 0, 0, 0, 0, 0, 0, 0, 0, 0, 0, 0, 0, 0, 0, 0, 0, 0, 0, 0, 0, 0, 0, 0, 0]⟩ := rfl
def exM : Ml := ⟨2, 3, 258, e0, mk (zr 32), [], []⟩
def exT : ByteArray := mk ([2, 3, 0, 0, 1, 2] ++ zr 32)
theorem ex_ok : okB exM = true := by decide
theorem ex_txt : mk (txt exM) = exT := by
  unfold exT
  congr 1
theorem ex_dec : de (by' exT) = 0 ∧ dm (by' exT) = exM := by
  have h := (dec_txt ex_ok).1
  have e : txt exM = by' exT := by rw [← ex_txt, by_mk]
  rw [e] at h
  have r := rd_back ex_ok
  rw [e] at r
  unfold de dm
  rw [h, r]; exact ⟨rfl, rfl⟩
set_option maxHeartbeats 1000000 in
theorem mworks_any (w : World) :
    Calls Try.prog 16 #[] w fun e w' => e = .returned (.bool true) ∧ Below w.heap.size w w' := by
  obtain ⟨W, CM, BW, bW, -⟩ := make_n 32 (by decide) w
  obtain ⟨Z, hZ⟩ : ∃ Z, mk (zr 32) = Z := ⟨_, rfl⟩
  have CV := BW.string (cap := 32) (n := 32) (by simp)
  rw [show (⟨(List.replicate 32 (0 : UInt8)).toArray⟩ : ByteArray) = Z from hZ] at CV
  have CM : (Instr.makeSlice 59 (.int .i64 32) (.int .i64 32)).run Try.prog w = .ok (.slice (some ⟨w.heap.size, 0, none⟩) 32 32) W := CM
  obtain ⟨T, hT⟩ : ∃ T, exT = T := ⟨_, rfl⟩
  have EN : Hid (∀ w, Calls Try.prog 9 #[mv 2 3 258 ⟨#[]⟩ Z none 0 0 none 0 0] w fun e w' => e = .returned (.tuple #[.string T, .int .i64 0]) ∧ Below w.heap.size w w') := fun w => by
    have := encode_ok 2 3 258 e0 (mk (zr 32)) none 0 0 none 0 0 [] [] ex_ok w (Lists.zero w)
    rw [show mk (txt ⟨2, 3, 258, e0, mk (zr 32), [], []⟩) = exT from ex_txt, hT, hZ] at this
    exact this
  have DC : Hid (∀ w, Calls Try.prog 17 #[.string T] w fun e w' => ∃ a n c a2 n2 c2, e = .returned (.tuple #[mv 2 3 258 ⟨#[]⟩ Z a n c a2 n2 c2, .int .i64 0]) ∧ Below w.heap.size w w') := fun w => by
    rw [← hT]
    refine Calls.mono (decode_any exT (by decide) w) ?_
    rintro e w' ⟨v, rfl, hv, hb⟩
    rw [ex_dec.2] at hv
    obtain ⟨a, n, c, a2, n2, c2, rfl, -⟩ := hv
    rw [ex_dec.1]
    refine ⟨a, n, c, a2, n2, c2, ?_, hb⟩
    rw [← hZ]; rfl
  have AD : ∀ w, (Op.stringOp .add (⟨#[2, 3, 0, 0, 1, 2]⟩ : ByteArray) Z).run Try.prog w = .ok (.string T) w := fun w => by
    have sz : (⟨#[2, 3, 0, 0, 1, 2]⟩ : ByteArray).size + Z.size ≤ 9223372036854775807 := by rw [← hZ]; decide
    rw [run_string_add_sum (P := Try.prog) w _ _ sz, ← hZ, ← hT]
    rfl
  have YY : (T.toList == T.toList) = true := by simp
  have BW : Hid (Below w.heap.size w W) := bW
  clear hT hZ bW
  go_enter Try.func16, Try.ntmps16
  go_wp2_with fail
  refine Calls.mono (EN.out _) ?_
  rintro e w1 ⟨rfl, hb1⟩
  have B1 : Hid (Below w.heap.size w w1) := chain BW.out hb1
  clear hb1 BW CM CV
  go_wp2_with fail
  refine Calls.mono (DC.out _) ?_
  rintro e w2 ⟨a, n, c, a2, n2, c2, rfl, hb2⟩
  have B2 : Hid (∀ o, Below w.heap.size w (w2.alloc o)) := fun o => (chain B1.out hb2).alloc (chain B1.out hb2).size _
  clear hb2 B1
  go_wp2_with fail
  refine Calls.mono (mlong_any 2 _) ?_
  rintro e w3 ⟨rfl, hw3⟩
  have hw4 := hw3.symm
  subst hw4
  clear hw3
  rw [show ((long 2 : Nat) : Int) = 38 from rfl]
  go_wp2
  go_ret
  exact ⟨rfl, B2.out _⟩
end Go.Proofs.Ytbaajpefefedbaa
