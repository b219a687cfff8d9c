/- Each part fits; behind their sixteen bytes the parts are the body. -/
import Derived.Test.YtdepjiocmbbdpaaDoorPtV
import Derived.Laws.Concat
namespace Go.Proofs.YtdepjiocmbbdpaaDoor
open Go.RowKit Go.Proofs.Fd Go.Proofs.Pt
set_option maxRecDepth 20000

theorem raw_of_rd {s : Bs} {p : Pa} (h : rd s = some p) : raw s = p := by
  unfold rd at h
  split at h
  · cases h
  · split at h
    · exact Option.some.inj h
    · cases h
theorem raw_part (i b : Bs) (hi : i.length = 8) (hb : b.length ≤ 2048) (k : Nat) (hk : k < cnt b.length) : raw (tx (tpart i b k)) = tpart i b k := raw_of_rd (rd_part i b hi hb k hk)
theorem ba_st (s : ByteArray) : st s.data.toList = s := by cases s; rfl
theorem cut_get (i b : Bs) (k : Nat) (hk : k < cnt b.length) : (cut i b)[k]? = some (tx (tpart i b k)) := by unfold cut; rw [List.getElem?_map, List.getElem?_range hk]; rfl
theorem cut_cell {W : World} {G : Nat} {i b : Bs} (h : Blk W G (scl (cut i b))) (k : Nat) (hk : k < cnt b.length) : W.cell? ⟨G, k, none⟩ = some (.string (st (tx (tpart i b k)))) :=
  h.c k _ (by unfold scl; rw [List.getElem?_map, cut_get i b k hk]; rfl)
set_option maxHeartbeats 8000000 in
theorem PartsFit_walk (id body : ByteArray) (w : World) (hK : Kh w) :
    Calls Tryd.prog 6 #[.string id, .string body] w fun e w' => e = .returned (.bool true) ∧ Below w.heap.size w w' := by
  obtain ⟨b, hb⟩ : ∃ b, body.data.toList = b := ⟨_, rfl⟩
  have eb : body = st b := by rw [← hb, ba_st]
  have sb := st_size b
  obtain ⟨i, hi⟩ : ∃ i, fit8 id.data.toList = i := ⟨_, rfl⟩
  have i8 : i.length = 8 := hi ▸ fit8_len _
  have WK : Hid _ := works22_any w hK
  have FT : Hid (∀ W, Calls Tryd.prog 18 #[.string id, .int .i64 8] W fun e w' => e = .returned (.string (st i)) ∧ Below W.heap.size W w') := fun W => by have := fit_any id W; rw [hi] at this; exact this
  have HK : Hid (Kh w) := hK
  subst eb
  clear hb hi hK
  by_cases hl : 2048 < b.length
  · have CU : Hid (∀ W, Calls Tryd.prog 9 #[.string (st i), .string (st b)] W fun e w' => e = .returned (.tuple #[.slice none 0 0, .int .i64 2]) ∧ w' = W) := fun W => Cut_long (st i) (st b) (by rw [st_size, i8]) (by rw [st_size]; exact hl) W
    have g1 : (2048 : Int) < (b.length : Int) := by omega
    generalize st b = Bd at *
    generalize st i = Id at *
    go_enter Tryd.func6, Tryd.ntmps6
    go_wp2_with fail
    refine Calls.mono WK.out ?_
    rintro e w1 ⟨rfl, b1⟩
    go_wp2_with fail
    refine Calls.mono (FT.out _) ?_
    rintro e w2 ⟨rfl, b2⟩
    have B2 : Hid (Below w.heap.size w w2) := chain b1 b2
    go_wp2_with fail
    refine Calls.mono (CU.out _) ?_
    rintro e w3 ⟨rfl, rfl⟩
    clear b1 b2
    go_wp2
    go_ret
    exact ⟨rfl, B2.out⟩
  have hl' : b.length ≤ 2048 := by omega
  have CU : Hid (∀ W, Kh W → Calls Tryd.prog 9 #[.string (st i), .string (st b)] W fun e w' => ∃ G, e = .returned (.tuple #[.slice (some ⟨G, 0, none⟩) (cnt b.length) (cnt b.length), .int .i64 0]) ∧ Blk w' G (scl (cut i b)) ∧ W.heap.size ≤ G ∧ Below W.heap.size W w') := fun W h => Cut_ok i b i8 hl' W h
  have CC : Hid (∀ W G, Blk W G (scl (cut i b)) → ∀ k, k < cnt b.length → W.cell? ⟨G, k, none⟩ = some (.string (st (tx (tpart i b k))))) := fun W G h k hk => cut_cell h k hk
  have PF : Hid (∀ k, k < cnt b.length → (st (tx (tpart i b k))).size = 16 + (pc b k).length ∧ (pc b k).length ≤ 200 ∧ (∀ h : 8 < (st (tx (tpart i b k))).size, IntKind.i64.wrap (((st (tx (tpart i b k)))[8]'h).toNat : Int) = (k : Int)) ∧ (∀ h : 9 < (st (tx (tpart i b k))).size, IntKind.i64.wrap (((st (tx (tpart i b k)))[9]'h).toNat : Int) = (cnt b.length : Int)) ∧ (st (tx (tpart i b k))).extract 16 (16 + (pc b k).length) = st (pc b k)) := fun k hk => by
    have er := raw_part i b i8 hl' k hk
    have e8 : ((tx (tpart i b k)).getD 8 0).toNat = k := congrArg Pa.k er
    have e9 : ((tx (tpart i b k)).getD 9 0).toNat = cnt b.length := congrArg (fun p => p.m.2.1) er
    have e16 : (tx (tpart i b k)).drop 16 = pc b k := congrArg Pa.p er
    have := cnt_le _ hl'
    refine ⟨tx_size i b i8 k, pc_le b k, fun h => ?_, fun h => ?_, ?_⟩
    · rw [st_at, e8, IntKind.wrap_i64]; omega
    · rw [st_at, e9, IntKind.wrap_i64]; omega
    · rw [st_cut, e16, List.take_of_length_le (by omega)]
  have AD : Hid (∀ k, ∀ W, (Op.stringOp .add (st (b.take (200 * k))) (st (pc b k))).run Tryd.prog W = .ok (.string (st (b.take (200 * (k + 1))))) W) := fun k W => by
    rw [run_string_add_sum W _ _ (by rw [st_size, st_size]; have := pc_le b k; have : (b.take (200 * k)).length ≤ b.length := by rw [List.length_take]; exact Nat.min_le_right _ _
                                     omega)]
    have : st (b.take (200 * k)) ++ st (pc b k) = st (b.take (200 * (k + 1))) := by
      apply ByteArray.ext
      simp [ByteArray.data_append, pc]
      rw [Nat.mul_add, List.take_add]
    rw [this]
  have TA : st (b.take (200 * cnt b.length)) = st b := by rw [List.take_of_length_le (by unfold cnt; omega)]
  have T0 : st (b.take (200 * 0)) = ⟨#[]⟩ := by simp
  have n1 := cnt_pos b.length
  have n11 := cnt_le _ hl'
  have CE : Hid ((cnt b.length : Int) = max 1 (((b.length : Int) + 199) / 200)) := by show _ = _; unfold cnt; omega
  generalize cnt b.length = N at *
  have g1 : ¬ (2048 : Int) < (b.length : Int) := by omega
  go_enter Tryd.func6, Tryd.ntmps6
  go_wp2_with fail
  refine Calls.mono WK.out ?_
  rintro e w1 ⟨rfl, b1⟩
  go_wp2_with fail
  refine Calls.mono (FT.out _) ?_
  rintro e w2 ⟨rfl, b2⟩
  have B2 : Hid (Below w.heap.size w w2) := chain b1 b2
  go_wp2_with fail
  refine Calls.mono (CU.out _ (HK.out.later B2.out)) ?_
  rintro e w3 ⟨G, rfl, g3, lG, b3⟩
  have F3 : Hid (Blk w3 G (scl (cut i b)) ∧ Below w.heap.size w w3) := ⟨g3, chain B2.out b3⟩
  clear b1 b2 g3 lG b3 WK FT CU B2
  go_wp2_with fail
  go_loopw [7, 26] (fun av iv wr => ∃ k : Nat, k ≤ N ∧ av = .string (st (b.take (200 * k))) ∧ iv = .int .i64 (k : Int) ∧ Hid (wr = w3)) (fun _ iv _ => N - (intOf iv).toNat)
  case atStart => exact ⟨0, Nat.zero_le _, by rw [T0], rfl, rfl⟩
  case round =>
    obtain ⟨k, hk, rfl, rfl, I⟩ := hrel
    have ew := I.out
    subst ew
    clear I
    by_cases hlt : k < N
    · have q1 : (k : Int) < (N : Int) := by omega
      have q0 : (0 : Int) ≤ (k : Int) := by omega
      have ck := CC.out _ G F3.out.1 k hlt
      obtain ⟨f1, f2, f3, f4, f5⟩ := PF.out k hlt
      have ad := AD.out k wr
      have nx : k + 1 ≤ N := hlt
      obtain ⟨A1, hA⟩ : ∃ A, st (b.take (200 * (k + 1))) = A := ⟨_, rfl⟩
      rw [hA] at ad
      have HA : Hid _ := hA
      clear hA
      clear AD PF CC TA
      generalize st (tx (tpart i b k)) = P at *
      generalize (pc b k).length = L at *
      have x8 := f3 (by omega)
      have x9 := f4 (by omega)
      clear f3 f4
      have z1 : (8 : Int) < ((16 + L : Nat) : Int) := by omega
      have z2 : (9 : Int) < ((16 + L : Nat) : Int) := by omega
      have z3 : (16 : Int) ≤ ((16 + L : Nat) : Int) := by omega
      have z4 : ¬ ((16 + L : Nat) : Int) < 16 := by omega
      have z5 : ¬ (216 : Int) < ((16 + L : Nat) : Int) := by omega
      go_wp2
      go_roundw
      case rel => exact ⟨k + 1, nx, by rw [HA.out], by go_num, trivial⟩
      case measure => simp [intOf]; omega
    · have q1 : ¬ (k : Int) < (N : Int) := by omega
      obtain rfl : k = N := by omega
      rw [TA]
      have se : ((st b).toList == (st b).toList) = true := by simp
      have W1 : wrap64 ((b.length : Int) + 199) = (b.length : Int) + 199 := by unfold wrap64; omega
      have ce := CE.out
      clear CC PF AD
      generalize st b = Bd at *
      go_wp2
      all_goals go_ret
      all_goals exact ⟨rfl, F3.out.2⟩
end Go.Proofs.YtdepjiocmbbdpaaDoor
