/- A joiner beside a law's own blocks; bytes made so long; the chapter's example. -/
import Derived.Test.YtdepjiocmbbdpaaDoorPtT
import Derived.Test.YtdepjiocmbbdpaaDoorPtU
namespace Go.Proofs.YtdepjiocmbbdpaaDoor
open Go.RowKit Go.Proofs.Fd Go.Proofs.Pt
set_option maxRecDepth 20000

/-- A joiner whose blocks are from u on, and none of X. -/
def JW (u : Nat) (X : Nat → Prop) (W : World) (j : Nat) (J : Jn) : Prop := ∃ vS vD B, JAt W j J vS vD B ∧ ∀ g, JF j vS vD B g → u ≤ g ∧ ¬ X g
theorem JW.later {u : Nat} {X : Nat → Prop} {W W' : World} {j : Nat} {J : Jn} (h : JW u X W j J) (hb : Below W.heap.size W W') : JW u X W' j J := by
  obtain ⟨vS, vD, B, a, b⟩ := h; exact ⟨vS, vD, B, a.later hb, b⟩
theorem JW.bf {u : Nat} {X F : Nat → Prop} {W W' : World} {j : Nat} {J : Jn} (h : JW u X W j J) (hb : Bf F W W') (hF : ∀ g, F g → X g ∨ g < u) : JW u X W' j J := by
  obtain ⟨vS, vD, B, a, b⟩ := h; exact ⟨vS, vD, B, a.bf hb (fun g hg hf => by rcases hF g hf with z | z; exact (b g hg).2 z; have := (b g hg).1; omega), b⟩
/-- A block more is none of the joiner's. -/
theorem JW.more {u : Nat} {X : Nat → Prop} {W : World} {j : Nat} {J : Jn} (h : JW u X W j J) {o : Nat} (ho : W.heap.size ≤ o) : JW u (fun g => X g ∨ g = o) W j J := by
  obtain ⟨vS, vD, B, a, b⟩ := h
  refine ⟨vS, vD, B, a, fun g hg => ⟨(b g hg).1, fun z => ?_⟩⟩
  rcases z with z | z
  · exact (b g hg).2 z
  · have := a.lt hg; omega
theorem takeJ_any (u : Nat) (X : Nat → Prop) (j : Nat) (J : Jn) (s : Bs) (hs : s.length ≤ 140737488000000) (hmi : ∀ x ∈ J.S, 1 ≤ x.mi) (hroom : ∀ p, rd s = some p → at_ J.S p.m.1 = none → J.S.length < J.mo) (hno : J.D.length < J.no) (hmo : J.mo ≤ 1024) (hn : J.no ≤ 1024) (W : World) (hK : Kh W) (hu : 0 < u) (hX : ∀ g, X g → g < W.heap.size) (huW : u ≤ W.heap.size) (h : JW u X W j J) :
    Calls Tryd.prog 15 #[.pointer (some ⟨j, 0, none⟩), .string (st s)] W fun e w' => e = .returned (ansV (J.take s).1 (J.take s).2.1) ∧ JW u X w' j (J.take s).2.2 ∧ Bf (fun g => u ≤ g ∧ ¬ X g) W w' ∧ Kh w' := by
  obtain ⟨vS, vD, B, a, b⟩ := h
  have hG : ¬ JF j vS vD B 0 := fun z => by have := (b _ z).1; omega
  refine (Take_any j J vS vD B s hs hmi hroom hno hmo hn W hK hG a).mono ?_
  rintro e w' ⟨rfl, jp⟩
  obtain ⟨vS', vD', B', a', nx⟩ := jp.at_
  refine ⟨rfl, ⟨vS', vD', B', a', fun g hg => ?_⟩, ⟨jp.bf.os, jp.bf.tape, jp.bf.output, jp.bf.size, fun z hz hF => jp.bf.block z hz fun q => hF (b z q)⟩, hK.bf jp.bf hG⟩
  rcases nx g hg with z | z
  · exact b g z
  · exact ⟨Nat.le_trans huW z, fun q => by have := hX g q; omega⟩
theorem tx_len (p : Pa) (h : Mk8 p.m) (hp : p.p.length ≤ 200) : (tx p).length ≤ 216 := by
  unfold tx; simp only [List.length_append, h.a, h.b, List.length_cons, List.length_nil]; omega
theorem take_new (u : Nat) (X : Nat → Prop) (j mo no : Nat) (hmo : 2 ≤ mo ∧ mo ≤ 1024) (hno : 2 ≤ no ∧ no ≤ 1024) (i b : Bs) (hi : i.length = 8) (hb : b.length ≤ 2048) (c : Nat → Bool) (k : Nat) (hk : k < cnt b.length) (hc : c k = false) (W : World) (hK : Kh W) (hu : 0 < u) (hX : ∀ g, X g → g < W.heap.size) (huW : u ≤ W.heap.size) (h : JW u X W j (stt mo no i b c)) :
    Calls Tryd.prog 15 #[.pointer (some ⟨j, 0, none⟩), .string (st (tx (tpart i b k)))] W fun e w' => e = .returned (ansV (if miss (upd c k) (cnt b.length) = 0 then some (i, b) else none) 0) ∧ JW u X w' j (stt mo no i b (upd c k)) ∧ Bf (fun g => u ≤ g ∧ ¬ X g) W w' ∧ Kh w' := by
  obtain ⟨o1, o2, o3, o4, o5⟩ := stt_ok mo no hmo.1 hno.1 i b c
  have := takeJ_any u X j (stt mo no i b c) (tx (tpart i b k)) (Nat.le_trans (tx_len (tpart i b k) ⟨hi, dg6_len i b⟩ (pc_le b k)) (by decide)) o3 (fun _ _ _ => by rw [o1]; exact o4) (by rw [o2]; exact o5) (by rw [o1]; exact hmo.2) (by rw [o2]; exact hno.2) W hK hu hX huW h
  rw [stt_new mo no (by omega) (by omega) i b hi hb c k hk hc] at this
  exact this
theorem take_old (u : Nat) (X : Nat → Prop) (j mo no : Nat) (hmo : 2 ≤ mo ∧ mo ≤ 1024) (hno : 2 ≤ no ∧ no ≤ 1024) (i b : Bs) (hi : i.length = 8) (hb : b.length ≤ 2048) (c : Nat → Bool) (k : Nat) (hk : k < cnt b.length) (hc : c k = true) (W : World) (hK : Kh W) (hu : 0 < u) (hX : ∀ g, X g → g < W.heap.size) (huW : u ≤ W.heap.size) (h : JW u X W j (stt mo no i b c)) :
    Calls Tryd.prog 15 #[.pointer (some ⟨j, 0, none⟩), .string (st (tx (tpart i b k)))] W fun e w' => e = .returned (ansV none 6) ∧ JW u X w' j (stt mo no i b c) ∧ Bf (fun g => u ≤ g ∧ ¬ X g) W w' ∧ Kh w' := by
  obtain ⟨o1, o2, o3, o4, o5⟩ := stt_ok mo no hmo.1 hno.1 i b c
  have := takeJ_any u X j (stt mo no i b c) (tx (tpart i b k)) (Nat.le_trans (tx_len (tpart i b k) ⟨hi, dg6_len i b⟩ (pc_le b k)) (by decide)) o3 (fun _ _ _ => by rw [o1]; exact o4) (by rw [o2]; exact o5) (by rw [o1]; exact hmo.2) (by rw [o2]; exact hno.2) W hK hu hX huW h
  rw [stt_old mo no i b hi hb c k hk hc] at this
  exact this
theorem NewJ (mo no : Nat) (h1 : 1 ≤ mo ∧ mo ≤ 1024) (h2 : 1 ≤ no ∧ no ≤ 1024) (w : World) :
    Calls Tryd.prog 13 #[.int .i64 (mo : Int), .int .i64 (no : Int)] w fun e w' => e = .returned (.tuple #[.pointer (some ⟨w.heap.size, 0, none⟩), .int .i64 0]) ∧ JW w.heap.size (fun _ => False) w' w.heap.size (new mo no) ∧ Below w.heap.size w w' := by
  refine (New_ok mo no h1 h2 w).mono ?_
  rintro e w' ⟨rfl, a, b⟩
  refine ⟨rfl, ⟨_, _, _, a, fun g hg => ⟨?_, id⟩⟩, b⟩
  rcases hg with rfl | z | z | z
  · exact Nat.le_refl _
  · cases z
  · cases z
  · cases z
/-- Bytes made. -/
theorem make_bytes (n : Nat) (hn : n ≤ 1000000) (h1 : 0 < n) (w : World) : ∃ W : World, (Instr.makeSlice 54 (.int .i64 (n : Int)) (.int .i64 (n : Int))).run Tryd.prog w = .ok (.slice (some ⟨w.heap.size, 0, none⟩) n n) W
    ∧ Blk W w.heap.size (bc (zb n)) ∧ Below w.heap.size w W ∧ W.heap.size = w.heap.size + 1 := by
  obtain ⟨i0, hi, hz0, hz1, hz2⟩ := info3 infoB
  have h := run_make (P := Tryd.prog) w 54 5 i0 (.int .u8 0) Tryd.underlying54 hi hz0 .i64 .i64 (n : Int) (n : Int) (by omega) (Int.le_refl _) (by rw [hz2]; omega) (by omega)
  have e : madeCells (Value.int .u8 0).cells (n * 1) = (bc (zb n)).toArray := by
    apply Array.ext
    · rw [size_madeCells, List.size_toArray, bc_len, Nat.mul_one]; simp [zb]
    · intro i h1 h2
      simp [madeCells, Value.cells, bc, zb, Nat.mod_one]
  rw [Int.toNat_natCast, hz1, e] at h
  exact ⟨_, h, Blk.new w _ _ (fun e => by have := congrArg List.length e; rw [bc_len] at this; simp [zb] at this; omega), (Below.refl _ _).alloc (Nat.le_refl _) _, by simp⟩
theorem blk_text {w : World} {b n cap : Nat} {l : Bs} (h : Blk w b (bc l)) (hn : l.length = n) : (convert 54 9 (.slice (some ⟨b, 0, none⟩) n cap)).run Tryd.prog w = .ok (.string (st l)) w :=
  BytesAt.string (w := w) (b := b) (cap := cap) (n := n) (l := l) (fun j hj => ⟨h.c j _ (by unfold bc; rw [List.getElem?_map, List.getElem?_eq_getElem hj]; rfl), h.f j⟩) hn
/-- Bytes so long. -/
def fit8 (s : Bs) : Bs := s.take 8 ++ (zb 8).drop (s.take 8).length
theorem fit8_len (s : Bs) : (fit8 s).length = 8 := by unfold fit8 zb; simp; omega
theorem fit_any (s : ByteArray) (w : World) : Calls Tryd.prog 18 #[.string s, .int .i64 8] w fun e w' => e = .returned (.string (st (fit8 s.data.toList))) ∧ Below w.heap.size w w' := by
  obtain ⟨W1, r1, z1, n1, s1⟩ := make_bytes 8 (by decide) (by decide) w
  have hl : s.data.toList.length = s.size := by simp
  have C0 := copy_str W1 w.heap.size 0 8 8 s (Nat.min s.size 8) rfl z1.there
  obtain ⟨W2, hW2⟩ : ∃ W, W1.setCells w.heap.size 0 (bc (s.data.toList.take (Nat.min s.size 8))) = W := ⟨_, rfl⟩
  have et : s.data.toList.take (Nat.min s.size 8) = s.data.toList.take 8 := by
    rcases Nat.le_total s.size 8 with h | h
    · rw [show Nat.min s.size 8 = s.size from Nat.min_eq_left h, List.take_of_length_le (by omega), List.take_of_length_le (by omega)]
    · rw [show Nat.min s.size 8 = 8 from Nat.min_eq_right h]
  rw [et] at hW2 C0
  have z2 : Blk W2 w.heap.size (bc (fit8 s.data.toList)) := by
    have lt : (s.data.toList.take 8).length ≤ 8 := by rw [List.length_take]; omega
    refine ⟨?_, fun o => by rw [← hW2]; exact (frozen_setCells w.heap.size _ 0 W1 _).trans (z1.f o), bc_ne (fit8_len _)⟩
    unfold fit8
    rw [bc_app]
    have th : W1.there w.heap.size 0 (bc (s.data.toList.take 8)).length := fun j hj => z1.there j (by rw [bc_len] at hj ⊢; simp [zb]; omega)
    rw [← hW2]
    refine range_join (World.rangeAt_setCells_same W1 w.heap.size 0 _ th) ?_
    intro j v hv
    have e1 : (bc ((zb 8).drop (s.data.toList.take 8).length))[j]? = (bc (zb 8))[(s.data.toList.take 8).length + j]? := by
      unfold bc; rw [List.getElem?_map, List.getElem?_map, List.getElem?_drop]
    rw [e1] at hv
    rw [World.cell?_setCells_out w.heap.size _ 0 W1 _ (fun _ _ => .inr (by show 0 + _ ≤ 0 + (bc _).length + j; omega))]
    have := z1.r ((s.data.toList.take 8).length + j) v hv
    rw [bc_len, show 0 + (s.data.toList.take 8).length + j = 0 + ((s.data.toList.take 8).length + j) by omega]; exact this
  have CV := blk_text (cap := 8) z2 (fit8_len _)
  have FI : Hid (Below w.heap.size w W2) := hW2 ▸ below_sets (Nat.le_refl _) _ _ n1
  rw [hW2] at C0
  have MS : Hid _ := r1
  generalize st (fit8 s.data.toList) = R at *
  clear r1 z1 n1 s1 hW2 et z2
  go_enter Tryd.func18, Tryd.ntmps18
  have ms : (Instr.makeSlice 54 (.int .i64 8) (.int .i64 8)).run Tryd.prog w = .ok (.slice (some ⟨w.heap.size, 0, none⟩) 8 8) W1 := MS.out
  go_wp2
  go_ret
  exact ⟨rfl, FI.out⟩
/-- An answer is laid into a block of the law's own. -/
theorem told_new (W : World) (x y : ByteArray) : ∃ V V2, (Instr.alloc 36 true (.tuple #[])).run Tryd.prog W = .ok (.pointer (some ⟨W.heap.size, 0, none⟩)) V ∧ (Instr.storeAt 36 (.pointer (some ⟨W.heap.size, 0, none⟩)) (.agg #[.string x, .string y])).run Tryd.prog V = .ok () V2 ∧ Blk V2 W.heap.size [.string x, .string y] ∧ Below W.heap.size W V2 := by
  have z := Blk.new W [.string ⟨#[]⟩, .string ⟨#[]⟩] 36 (by simp)
  refine ⟨W.alloc (.cells #[.string ⟨#[]⟩, .string ⟨#[]⟩] 36), _, by kernel_rfl, store_row 36 sizeTold z.there (vs := [.string x, .string y]) rfl (by intro v hv; simp at hv; rcases hv with rfl | rfl <;> rfl), z.put _ rfl, below_sets (Nat.le_refl _) _ _ ((Below.refl _ _).alloc (Nat.le_refl _) _)⟩
/-- The chapter's example. -/
def i0 : Bs := [97, 110, 32, 105, 100, 32, 105, 115]
theorem cnt201 : cnt (zb 201).length = 2 := by decide
theorem tx_size (i b : Bs) (hi : i.length = 8) (k : Nat) : (st (tx (tpart i b k))).size = 16 + (pc b k).length := by
  rw [st_size]
  unfold tx
  simp only [List.length_append, List.length_cons, List.length_nil]
  show i.length + 2 + (dg6 i b).length + (pc b k).length = _
  rw [hi, dg6_len]
set_option maxHeartbeats 8000000 in
theorem works22_any (w : World) (hK : Hid (Kh w)) : Calls Tryd.prog 12 #[] w fun e w' => e = .returned (.bool true) ∧ Below w.heap.size w w' := by
  obtain ⟨W1, r1, z1, n1, s1⟩ := make_bytes 201 (by decide) (by decide) w
  have MS : Hid ((Instr.makeSlice 54 (.int .i64 201) (.int .i64 201)).run Tryd.prog w = .ok (.slice (some ⟨w.heap.size, 0, none⟩) 201 201) W1) := r1
  have Z1 : Hid (Blk W1 w.heap.size (bc (zb 201)) ∧ Below w.heap.size w W1) := ⟨z1, n1⟩
  have CV : Hid (∀ W, Blk W w.heap.size (bc (zb 201)) → (convert 54 9 (.slice (some ⟨w.heap.size, 0, none⟩) 201 201)).run Tryd.prog W = .ok (.string (st (zb 201))) W) := fun W h => blk_text h (by simp [zb])
  have CU : Hid (∀ W, Kh W → Calls Tryd.prog 9 #[.string ⟨#[97, 110, 32, 105, 100, 32, 105, 115]⟩, .string (st (zb 201))] W fun e w' => ∃ G, e = .returned (.tuple #[.slice (some ⟨G, 0, none⟩) 2 2, .int .i64 0]) ∧ Blk w' G (scl (cut i0 (zb 201))) ∧ W.heap.size ≤ G ∧ Below W.heap.size W w') := fun W h => Cut_ok i0 (zb 201) rfl (by simp [zb]) W h
  have NW : Hid (∀ W, Calls Tryd.prog 13 #[.int .i64 2, .int .i64 2] W fun e w' => e = .returned (.tuple #[.pointer (some ⟨W.heap.size, 0, none⟩), .int .i64 0]) ∧ JW W.heap.size (fun _ => False) w' W.heap.size (stt 2 2 i0 (zb 201) (fun _ => false)) ∧ Below W.heap.size W w') := fun W => by rw [stt_none]; exact NewJ 2 2 (by decide) (by decide) W
  have T1 : Hid (∀ u W j, Kh W → 0 < u → u ≤ W.heap.size → JW u (fun _ => False) W j (stt 2 2 i0 (zb 201) (fun _ => false)) → Calls Tryd.prog 15 #[.pointer (some ⟨j, 0, none⟩), .string (st (tx (tpart i0 (zb 201) 1)))] W fun e w' => e = .returned (.tuple #[.agg #[.string ⟨#[]⟩, .string ⟨#[]⟩], .bool false, .int .i64 0]) ∧ JW u (fun _ => False) w' j (stt 2 2 i0 (zb 201) (upd (fun _ => false) 1)) ∧ Below u W w' ∧ Kh w') := fun u W j h1 h2 h3 h4 => by
    refine (take_new u (fun _ => False) j 2 2 (by decide) (by decide) i0 (zb 201) rfl (by simp [zb]) (fun _ => false) 1 (by rw [cnt201]; decide) rfl W h1 h2 (fun g hg => hg.elim) h3 h4).mono ?_
    rintro e w' ⟨rfl, q1, q2, q3⟩
    rw [cnt201, show miss (upd (fun _ => false) 1) 2 = 1 from rfl]
    exact ⟨rfl, q1, q2.below (fun g hg => hg.1) h3, q3⟩
  have T0 : Hid (∀ u W j, Kh W → 0 < u → u ≤ W.heap.size → JW u (fun _ => False) W j (stt 2 2 i0 (zb 201) (upd (fun _ => false) 1)) → Calls Tryd.prog 15 #[.pointer (some ⟨j, 0, none⟩), .string (st (tx (tpart i0 (zb 201) 0)))] W fun e w' => e = .returned (.tuple #[.agg #[.string ⟨#[97, 110, 32, 105, 100, 32, 105, 115]⟩, .string (st (zb 201))], .bool true, .int .i64 0]) ∧ Below u W w') := fun u W j h1 h2 h3 h4 => by
    refine (take_new u (fun _ => False) j 2 2 (by decide) (by decide) i0 (zb 201) rfl (by simp [zb]) (upd (fun _ => false) 1) 0 (by rw [cnt201]; decide) rfl W h1 h2 (fun g hg => hg.elim) h3 h4).mono ?_
    rintro e w' ⟨rfl, q1, q2, q3⟩
    rw [cnt201, show miss (upd (upd (fun _ => false) 1) 0) 2 = 0 from rfl]
    exact ⟨rfl, q2.below (fun g hg => hg.1) h3⟩
  have CT : Hid (∀ W G, Blk W G (scl (cut i0 (zb 201))) → W.cell? ⟨G, 0, none⟩ = some (.string (st (tx (tpart i0 (zb 201) 0)))) ∧ W.cell? ⟨G, 1, none⟩ = some (.string (st (tx (tpart i0 (zb 201) 1))))) := fun W G h => by
    have e : cut i0 (zb 201) = [tx (tpart i0 (zb 201) 0), tx (tpart i0 (zb 201) 1)] := by unfold cut; rw [cnt201]; rfl
    rw [e] at h
    exact ⟨h.c 0 _ rfl, h.c 1 _ rfl⟩
  have S0 : (st (tx (tpart i0 (zb 201) 0))).size = 216 := by rw [tx_size i0 (zb 201) rfl]; simp [pc, zb]
  have S1 : (st (tx (tpart i0 (zb 201) 1))).size = 17 := by rw [tx_size i0 (zb 201) rfl]; simp [pc, zb]
  generalize st (tx (tpart i0 (zb 201) 0)) = P0 at *
  generalize st (tx (tpart i0 (zb 201) 1)) = P1 at *
  generalize stt 2 2 i0 (zb 201) (fun _ => false) = J0 at *
  generalize stt 2 2 i0 (zb 201) (upd (fun _ => false) 1) = J1 at *
  have se : ((st (zb 201)).toList == (st (zb 201)).toList) = true := by simp
  generalize st (zb 201) = ZS at *
  clear r1 z1 n1 s1
  have ms := MS.out
  have cv1 := CV.out W1 Z1.out.1
  go_enter Tryd.func12, Tryd.ntmps12
  go_wp2_with fail
  clear ms cv1
  refine Calls.mono (CU.out _ (hK.out.later Z1.out.2)) ?_
  rintro e w2 ⟨G, rfl, g2, lG, b2⟩
  have F2 : Hid (Blk w2 w.heap.size (bc (zb 201)) ∧ Blk w2 G (scl (cut i0 (zb 201))) ∧ Below w.heap.size w w2) := ⟨Z1.out.1.later b2, g2, chain Z1.out.2 b2⟩
  clear g2 b2 lG Z1 CU
  go_wp2_with fail
  refine Calls.mono (NW.out _) ?_
  rintro e w3 ⟨rfl, j3, b3⟩
  have F3 : Hid (Blk w3 w.heap.size (bc (zb 201)) ∧ Blk w3 G (scl (cut i0 (zb 201))) ∧ Below w.heap.size w w3 ∧ JW w2.heap.size (fun _ => False) w3 w2.heap.size J0 ∧ w2.heap.size ≤ w3.heap.size) := ⟨F2.out.1.later b3, F2.out.2.1.later b3, chain F2.out.2.2 b3, j3, b3.size⟩
  have lz : w.heap.size < w2.heap.size := F2.out.1.lt
  have lG : G < w2.heap.size := F2.out.2.1.lt
  obtain ⟨ct0, ct1⟩ := CT.out w3 G F3.out.2.1
  clear j3 b3 F2 NW
  go_upto_region 6 with fail
  refine wp_region_lit ?_
  refine wpList_plain rfl (fun K2 hK2 => ?_)
  go_simp
  refine hK2 _ _ ?_
  clear hK2 K2
  refine wpList_plain rfl (fun K2 hK2 => ?_)
  go_simp
  refine hK2 _ _ ?_
  clear hK2 K2
  refine wpList_plain rfl (fun K2 hK2 => ?_)
  go_simp
  refine hK2 _ _ ?_
  clear hK2 K2
  refine wpList_plain rfl (fun K2 hK2 => ?_)
  go_simp
  refine hK2 _ _ ?_
  clear hK2 K2
  refine wpList_plain rfl (fun K2 hK2 => ?_)
  go_simp
  refine Calls.mono (T1.out w2.heap.size _ _ (hK.out.later F3.out.2.2.1) (Nat.lt_of_lt_of_le hK.out.1 (Nat.le_of_lt lz)) F3.out.2.2.2.2 F3.out.2.2.2.1) ?_
  rintro e w4 ⟨rfl, j4, b4, k4⟩
  obtain ⟨u, hu⟩ : ∃ u, w2.heap.size = u := ⟨_, rfl⟩
  rw [hu] at j4 b4 lz lG F3 ⊢
  obtain ⟨V4, w5, rA, rS, t5, n5⟩ := told_new w4 ⟨#[]⟩ ⟨#[]⟩
  have AL4 : Hid _ := rA
  have ST4 : Hid _ := rS
  have F5 : Hid (Blk w5 w.heap.size (bc (zb 201)) ∧ Blk w5 G (scl (cut i0 (zb 201))) ∧ Below w.heap.size w w5 ∧ JW u (fun _ => False) w5 u J1 ∧ u ≤ w5.heap.size ∧ Kh w5) := ⟨(F3.out.1.below b4 lz).later n5, (F3.out.2.1.below b4 lG).later n5, chain (F3.out.2.2.1.trans (b4.mono (Nat.le_of_lt lz))) n5, j4.later n5, Nat.le_trans F3.out.2.2.2.2 (Nat.le_trans b4.size n5.size), k4.later n5⟩
  obtain ⟨ct0, ct1⟩ := CT.out w5 G F5.out.2.1
  clear j4 b4 k4 F3 T1 rA rS t5 n5
  refine hK2 _ _ ?_
  clear hK2 K2
  try simp only [Act.put, List.setIfInBounds_toArray, List.set_cons_zero, List.set_cons_succ]
  refine wpList_plain rfl (fun K2 hK2 => ?_)
  go_simp
  refine hK2 _ _ ?_
  clear hK2 K2
  refine wpList_plain rfl (fun K2 hK2 => ?_)
  go_simp
  refine hK2 _ _ ?_
  clear hK2 K2
  refine wpList_plain rfl (fun K2 hK2 => ?_)
  go_simp
  refine hK2 _ _ ?_
  clear hK2 K2
  refine wpList_plain rfl (fun K2 hK2 => ?_)
  go_simp
  refine hK2 _ _ ?_
  clear hK2 K2
  refine wpList_plain rfl (fun K2 hK2 => wp_alloc_run _ rfl _ _ (AL4.out) (hK2 _ _ ?_))
  try simp only [Act.put, List.setIfInBounds_toArray, List.set_cons_zero, List.set_cons_succ]
  refine wpList_plain rfl (fun K2 hK2 => wp_store_run _ _ _ rfl _ rfl _ rfl _ (ST4.out) (hK2 _ _ ?_))
  try simp only [Act.put]
  refine wpList_plain rfl (fun K2 hK2 => ?_)
  go_simp
  refine hK2 _ _ ?_
  clear hK2 K2
  refine wpList_plain rfl (fun K2 hK2 => ?_)
  go_simp
  refine hK2 _ _ ?_
  clear hK2 K2
  refine wpList_nil ?_
  try simp only [Act.put, List.setIfInBounds_toArray, List.set_cons_zero, List.set_cons_succ]
  go_upto_region 7 with fail
  refine wp_region_lit ?_
  refine wpList_plain rfl (fun K2 hK2 => ?_)
  go_simp
  refine hK2 _ _ ?_
  clear hK2 K2
  refine wpList_plain rfl (fun K2 hK2 => ?_)
  go_simp
  refine hK2 _ _ ?_
  clear hK2 K2
  refine wpList_plain rfl (fun K2 hK2 => ?_)
  go_simp
  refine hK2 _ _ ?_
  clear hK2 K2
  refine wpList_plain rfl (fun K2 hK2 => ?_)
  go_simp
  refine hK2 _ _ ?_
  clear hK2 K2
  refine wpList_plain rfl (fun K2 hK2 => ?_)
  go_simp
  refine Calls.mono (T0.out u _ _ F5.out.2.2.2.2.2 (Nat.lt_of_lt_of_le hK.out.1 (Nat.le_of_lt lz)) F5.out.2.2.2.2.1 F5.out.2.2.2.1) ?_
  rintro e w6 ⟨rfl, b6⟩
  obtain ⟨V6, w7, rA, rS, t7, n7⟩ := told_new w6 ⟨#[97, 110, 32, 105, 100, 32, 105, 115]⟩ ZS
  have AL6 : Hid _ := rA
  have ST6 : Hid _ := rS
  have lu : u ≤ w6.heap.size := Nat.le_trans F5.out.2.2.2.2.1 b6.size
  have z7 : Blk w7 w.heap.size (bc (zb 201)) := (F5.out.1.below b6 lz).later n7
  have d0 := t7.c 0 _ rfl
  have d1 := t7.c 1 _ rfl
  have FI : Hid (Below w.heap.size w w7) := (F5.out.2.2.1.trans (b6.mono (Nat.le_of_lt lz))).trans (n7.mono (Nat.le_trans (Nat.le_of_lt lz) lu))
  have cv7 := CV.out w7 z7
  clear F5 b6 n7 T0 z7 ct0 ct1 rA rS t7
  refine hK2 _ _ ?_
  clear hK2 K2
  try simp only [Act.put, List.setIfInBounds_toArray, List.set_cons_zero, List.set_cons_succ]
  refine wpList_plain rfl (fun K2 hK2 => ?_)
  go_simp
  refine hK2 _ _ ?_
  clear hK2 K2
  refine wpList_plain rfl (fun K2 hK2 => ?_)
  go_simp
  refine hK2 _ _ ?_
  clear hK2 K2
  refine wpList_plain rfl (fun K2 hK2 => ?_)
  go_simp
  refine hK2 _ _ ?_
  clear hK2 K2
  refine wpList_plain rfl (fun K2 hK2 => ?_)
  go_simp
  refine hK2 _ _ ?_
  clear hK2 K2
  refine wpList_plain rfl (fun K2 hK2 => wp_alloc_run _ rfl _ _ (AL6.out) (hK2 _ _ ?_))
  try simp only [Act.put, List.setIfInBounds_toArray, List.set_cons_zero, List.set_cons_succ]
  refine wpList_plain rfl (fun K2 hK2 => wp_store_run _ _ _ rfl _ rfl _ rfl _ (ST6.out) (hK2 _ _ ?_))
  try simp only [Act.put]
  refine wpList_plain rfl (fun K2 hK2 => ?_)
  go_simp
  refine hK2 _ _ ?_
  clear hK2 K2
  refine wpList_plain rfl (fun K2 hK2 => ?_)
  go_simp
  refine hK2 _ _ ?_
  clear hK2 K2
  refine wpList_nil ?_
  try simp only [Act.put, List.setIfInBounds_toArray, List.set_cons_zero, List.set_cons_succ]
  go_wp2
  go_ret
  exact ⟨rfl, FI.out⟩
end Go.Proofs.YtdepjiocmbbdpaaDoor
