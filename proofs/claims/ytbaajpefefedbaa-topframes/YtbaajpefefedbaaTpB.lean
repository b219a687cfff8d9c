/- Does a message come through its frame? -/
import Derived.Test.YtbaajpefefedbaaTpA
import Derived.Test.YtbaajpefefedbaaMlP
namespace Go.Proofs.Fr
theorem one_frame (s : List UInt8) (hs : s.length ≤ 4096) : takeE ⟨[], false⟩ (one s) = 0 ∧ takeR ⟨[], false⟩ (one s) = ⟨one s, false⟩ ∧ has (one s) ∧ nextS ⟨one s, false⟩ = s ∧ (one s).length ≤ 1048576 := by
  have e : num4 (one s) = s.length := num4_be4 s.length s (by omega)
  have l := one_len s
  have nb : ¬ bad ([] ++ one s) := fun h => by
    have := h.2
    rw [List.nil_append, e] at this
    omega
  obtain ⟨t1, t2⟩ := take_ok [] (one s) nb (by rw [l]; show 0 + (4 + s.length) ≤ _; omega)
  rw [List.nil_append] at t2
  refine ⟨t1, t2, ⟨by omega, by rw [e]; omega⟩, ?_, by omega⟩
  unfold nextS
  show ((one s).drop 4).take (num4 (one s)) = s
  rw [e]
  show s.take s.length = s
  exact List.take_length
end Go.Proofs.Fr
namespace Go.Proofs.Ytbaajpefefedbaa
open Go.RowKit Go.Proofs.Fd Go.Proofs.Ml
set_option maxRecDepth 20000

def exB : Ml := ⟨2, 3, 1, e0, mk (zr 32), [], []⟩
theorem exB_ok : okB exB = true := by decide
theorem exB_dec : de (txt exB) = 0 ∧ dm (txt exB) = exB := by
  unfold de dm
  rw [(dec_txt exB_ok).1, rd_back exB_ok]; exact ⟨rfl, rfl⟩
theorem frs_single (s : ByteArray) : frs [s] = Fr.one (by' s) := by
  unfold frs
  simp
set_option maxHeartbeats 1000000 in
theorem begins_any (w : World) :
    Calls Try.prog 19 #[] w fun e w' => e = .returned (.bool true) ∧ Below w.heap.size w w' := by
  obtain ⟨W, CM, BW, bW, -⟩ := make_n 32 (by decide) w
  obtain ⟨Z, hZ⟩ : ∃ Z, mk (zr 32) = Z := ⟨_, rfl⟩
  have CV := BW.string (cap := 32) (n := 32) (by simp)
  rw [show (⟨(List.replicate 32 (0 : UInt8)).toArray⟩ : ByteArray) = Z from hZ] at CV
  have CM : (Instr.makeSlice 59 (.int .i64 32) (.int .i64 32)).run Try.prog w = .ok (.slice (some ⟨w.heap.size, 0, none⟩) 32 32) W := CM
  obtain ⟨T, hT⟩ : ∃ T, mk (txt exB) = T := ⟨_, rfl⟩
  have tl : T.size = 38 := by rw [← hT, mk_size, txt_len exB_ok]; rfl
  have EN : Hid (∀ w, Calls Try.prog 9 #[mv 2 3 1 ⟨#[]⟩ Z none 0 0 none 0 0] w fun e w' => e = .returned (.tuple #[.string T, .int .i64 0]) ∧ Below w.heap.size w w') := fun w => by
    have := encode_ok 2 3 1 e0 (mk (zr 32)) none 0 0 none 0 0 [] [] exB_ok w (Lists.zero w)
    rw [show mk (txt ⟨2, 3, 1, e0, mk (zr 32), [], []⟩) = T from hT, hZ] at this
    exact this
  have DC : Hid (∀ w, Calls Try.prog 17 #[.string T] w fun e w' => ∃ a n c a2 n2 c2, e = .returned (.tuple #[mv 2 3 1 ⟨#[]⟩ Z a n c a2 n2 c2, .int .i64 0]) ∧ Below w.heap.size w w') := fun w => by
    refine Calls.mono (decode_any T (by omega) w) ?_
    rintro e w' ⟨v, rfl, hv, hb⟩
    rw [← hT, by_mk] at hv ⊢
    rw [exB_dec.2] at hv
    obtain ⟨a, n, c, a2, n2, c2, rfl, -⟩ := hv
    rw [exB_dec.1]
    refine ⟨a, n, c, a2, n2, c2, ?_, hb⟩
    rw [← hZ]; rfl
  obtain ⟨F, hF⟩ : ∃ F : ByteArray, ⟨(frs [T]).toArray⟩ = F := ⟨_, rfl⟩
  have fb : F.data.toList = Fr.one (by' T) := by rw [← hF, frs_single]
  obtain ⟨f1, f2, f3, f4, f5⟩ := Fr.one_frame (by' T) (by rw [by_len]; omega)
  have OF : Hid (∀ (V : World) (B : Nat), V.cell? ⟨B, 0, none⟩ = some (.string T) → Calls Try.prog 20 #[.slice (some ⟨B, 0, none⟩) 1 1] V fun e w' => e = .returned (.tuple #[.string F, .int .i64 0]) ∧ Below V.heap.size V w') := fun V B h => by
    rw [← hF]
    exact Of_ok _ [T] 1 1 rfl (by decide) (by intro s hs; simp at hs; subst hs; omega) (by rw [frs_single]; show _ ≤ _; omega) V (strAt1 h)
  have TK : Hid (∀ (V : World) (p : Nat), Own w.heap.size V p ⟨[], false⟩ → w.heap.size ≤ V.heap.size → Calls Try.prog 22 #[.pointer (some ⟨p, 0, none⟩), .string F] V fun e w' => e = .returned (.int .i64 0) ∧ Own w.heap.size w' p ⟨Fr.one (by' T), false⟩ ∧ Below w.heap.size V w') := fun V p h1 h2 => by
    have := take_own w.heap.size p ⟨[], false⟩ F V h1 h2 (Nat.zero_le _)
    rw [fb, f1, f2] at this
    exact this
  have NX : Hid (∀ (V : World) (p : Nat), Own w.heap.size V p ⟨Fr.one (by' T), false⟩ → w.heap.size ≤ V.heap.size → Calls Try.prog 23 #[.pointer (some ⟨p, 0, none⟩)] V fun e w' => e = .returned (.tuple #[.string T, .bool true]) ∧ Below w.heap.size V w') := fun V p h1 h2 => by
    refine Calls.mono (next_own_yes w.heap.size p ⟨Fr.one (by' T), false⟩ V h1 h2 f5 f3) ?_
    rintro e w' ⟨rfl, -, hb⟩
    rw [f4]
    exact ⟨rfl, hb⟩
  have BW : Hid (Below w.heap.size w W) := bW
  clear hT hZ bW hF fb f1 f2 f3 f4 f5 tl
  go_enter Try.func19, Try.ntmps19
  go_wp2_with fail
  refine Calls.mono (EN.out _) ?_
  rintro e w1 ⟨rfl, hb1⟩
  have B1 : Hid (Below w.heap.size w w1) := chain BW.out hb1
  clear hb1 BW CM CV EN
  go_wp2_with fail
  refine Calls.mono (OF.out _ _ (by simp [go_sem])) ?_
  rintro e w2 ⟨rfl, hb2⟩
  have B2 : Hid (Below w.heap.size w w2) := chain (B1.out.alloc B1.out.size _) hb2
  clear hb2 B1 OF
  go_wp2_with fail
  refine Calls.mono (new_any w2) ?_
  rintro e w3 ⟨rfl, hr3, hb3, -⟩
  obtain ⟨p, hp⟩ : ∃ p, w2.heap.size = p := ⟨_, rfl⟩
  have R3 : Hid (Own w.heap.size w3 p ⟨[], false⟩ ∧ Below w.heap.size w w3) := by
    rw [hp] at hr3
    exact ⟨⟨by rw [← hp]; exact B2.out.size, p, by rw [← hp]; exact B2.out.size, hr3⟩, chain B2.out hb3⟩
  rw [hp]
  clear hr3 hb3 B2 hp
  go_wp2_with fail
  refine Calls.mono (TK.out w3 p R3.out.1 R3.out.2.size) ?_
  rintro e w4 ⟨rfl, hr4, hb4⟩
  have R4 : Hid (Own w.heap.size w4 p ⟨Fr.one (by' T), false⟩ ∧ Below w.heap.size w w4) := ⟨hr4, R3.out.2.trans hb4⟩
  clear hr4 hb4 R3 TK
  go_wp2_with fail
  refine Calls.mono (NX.out w4 p R4.out.1 R4.out.2.size) ?_
  rintro e w5 ⟨rfl, hb5⟩
  have R5 : Hid (Below w.heap.size w w5) := R4.out.2.trans hb5
  clear hb5 R4 NX
  go_wp2_with fail
  refine Calls.mono (DC.out w5) ?_
  rintro e w6 ⟨a, n, c, a2, n2, c2, rfl, hb6⟩
  have R6 : Hid (∀ o, Below w.heap.size w (w6.alloc o)) := fun o => (chain R5.out hb6).alloc (chain R5.out hb6).size _
  clear hb6 R5 DC
  go_wp2
  go_ret
  exact ⟨rfl, R6.out _⟩
end Go.Proofs.Ytbaajpefefedbaa
