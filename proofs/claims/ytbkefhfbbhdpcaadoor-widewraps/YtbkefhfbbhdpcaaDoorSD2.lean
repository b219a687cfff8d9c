/- The document's stream: streams and texts xor. -/
import Derived.Test.YtbkefhfbbhdpcaaDoorSD1
import Derived.Test.YtbkefhfbbhdpcaaDoorGS
import Derived.Lib.AppendStr
namespace Go.Proofs.YtbkefhfbbhdpcaaDoor
open Go.RowKit Go.Proofs.Fd Go.Proofs.Hs Go.Proofs.Cc
set_option maxRecDepth 20000

theorem rown_bytes {w : World} {base n : Nat} {v : Value} {l : List UInt8} (h : w.ownsRow base 5 1 v n (bcells l)) : l.length = n ∧ ((v = .slice none 0 0 ∧ n = 0) ∨ ∃ g cap, v = .slice (some ⟨g, 0, none⟩) n cap ∧ n ≤ cap ∧ cap ≤ 9223372036854775807 ∧ ∀ j (hj : j < l.length), w.cell? ⟨g, j, none⟩ = some (.int .u8 (l[j].toNat : Int))) := by
  obtain ⟨hl, hor⟩ := owns_bytes h
  refine ⟨hl, ?_⟩
  rcases hor with h0 | ⟨g, cap, rfl, hc⟩
  · exact .inl h0
  · refine .inr ⟨g, cap, rfl, ?_, ?_, hc⟩
    · rcases h.2 with ⟨h1, -⟩ | ⟨g', cap', cur, h1, -, -, hn, -⟩
      · cases h1
      · injection h1 with _ _ h4; omega
    · rcases h.2 with ⟨h1, -⟩ | ⟨g', cap', cur, h1, -, -, -, hm, -⟩
      · cases h1
      · injection h1 with _ _ h4; unfold maxLen at hm; omega
theorem rstr_cells (s : ByteArray) : Go.Lib.strCells s = bcells s.data.toList := by simp [Go.Lib.strCells, bcells]
theorem bcells_app (a b : List UInt8) : bcells a ++ bcells b = bcells (a ++ b) := by simp [bcells]

set_option maxHeartbeats 1000000 in
theorem rStream_any (k n : ByteArray) (c : UInt32) (m : Nat) (hk : Hid (k.size = 32)) (hn : Hid (n.size = 12)) (hm : m ≤ 65536) (w : World) :
    Calls Tryd.prog 33 #[.string k, .string n, .int .i64 (tv c), .int .i64 (m : Int)] w fun e w' => e = .returned (.string ⟨(strm k.data.toList n.data.toList c m).toArray⟩) ∧ Below w.heap.size w w' := by
  obtain ⟨i0, hi, hz0, hz1, hz2⟩ := info_parts infoByte
  obtain ⟨G, hG⟩ : ∃ G : Nat → List UInt8, blks k.data.toList n.data.toList c = G := ⟨_, rfl⟩
  obtain ⟨X, hX⟩ : ∃ X, strm k.data.toList n.data.toList c m = X := ⟨_, rfl⟩
  have HG : Hid (G 0 = [] ∧ (∀ q, G (q + 1) = G q ++ blk k.data.toList n.data.toList (c + UInt32.ofNat q)) ∧ (∀ q, (G q).length = 64 * q) ∧ ∀ q, m ≤ 64 * q → (G q).take m = X) := by
    rw [← hG, ← hX]
    exact ⟨rfl, fun q => rfl, fun q => blks_len _ _ _ q, fun q h => strm_of _ _ _ m q h⟩
  have LX : Hid (X.length = m) := by show _ = _; rw [← hX, strm_len]
  rw [hX]
  clear hG hX
  have W1 := wrap_tv c
  have W2 := tv_mod c
  go_enter Tryd.func33, Tryd.ntmps33
  go_wp2
  go_loopw [9, 10] (fun sl i wr => ∃ q : Nat, q ≤ 1024 ∧ i = .int .i64 (q : Int) ∧ Hid (wr.ownsRow w.heap.size 5 1 sl (64 * q) (bcells (G q)) ∧ Below w.heap.size w wr)) (fun _ i _ => 1024 - (intOf i).toNat)
  case atStart => exact ⟨0, by omega, rfl, by rw [HG.out.1]; exact ⟨rfl, .inl ⟨rfl, rfl⟩⟩, Below.refl _ _⟩
  case round =>
    obtain ⟨q, hq, rfl, I⟩ := hrel
    obtain ⟨hl, hor⟩ := rown_bytes I.out.1
    by_cases hlt : 64 * q < m
    · have hqb : q < 1024 := by omega
      have C1 : IntKind.u32.wrap (tv c + (q : Int)) = tv (c + UInt32.ofNat q) := by
        have := add32 c (UInt32.ofNat q)
        rw [tv_ofNat, Nat.mod_eq_of_lt (by omega)] at this
        exact this
      have C2 : (tv c + (q : Int)) % 4294967296 = tv (c + UInt32.ofNat q) := by
        have := add32' c (UInt32.ofNat q)
        rw [tv_ofNat, Nat.mod_eq_of_lt (by omega)] at this
        exact this
      have qi : (q : Int) < 1024 := by omega
      have GS : Hid (_ = _) := HG.out.2.1 q
      have BK : Hid (∀ w, Calls Tryd.prog 42 #[.string k, .string n, .int .u32 (tv (c + UInt32.ofNat q))] w fun e w' => e = .returned (.string ⟨(blk k.data.toList n.data.toList (c + UInt32.ofNat q)).toArray⟩) ∧ Below w.heap.size w w') := rblock_any k n _ hk hn
      obtain ⟨B, hB⟩ : ∃ B : ByteArray, ⟨(blk k.data.toList n.data.toList (c + UInt32.ofNat q)).toArray⟩ = B := ⟨_, rfl⟩
      have sB : B.size = 64 := by rw [← hB]; show (_ : List UInt8).toArray.size = 64; rw [List.size_toArray, blk_len]
      have dB : Hid (B.data.toList = blk k.data.toList n.data.toList (c + UInt32.ofNat q) ∧ B.size = 64) := ⟨by rw [← hB], sB⟩
      rw [hB] at BK
      obtain ⟨C, hC⟩ : ∃ C, c + UInt32.ofNat q = C := ⟨_, rfl⟩
      rw [hC] at C1 C2 BK dB GS
      have HC : Hid (c + UInt32.ofNat q = C) := hC
      clear hB sB hC
      rcases hor with ⟨rfl, h0⟩ | ⟨g, cap, rfl, hcap, hcapm, hcell⟩
      · have hq0 : q = 0 := by omega
        subst hq0
        have hCc : C = c := by rw [← HC.out]; simp
        rw [hCc] at BK
        clear C1 C2 hCc
        have m0 : (0 : Int) < (m : Int) := by omega
        rw [show ((0 : Nat) : Int) = 0 from rfl]
        go_wp2_with fail
        refine Calls.mono (BK.out _) ?_
        rintro e w1 ⟨rfl, hb1⟩
        have I1 : Hid (w1.ownsRow w.heap.size 5 1 (.slice none 0 0) (64 * 0) (bcells (G 0)) ∧ Below w.heap.size w w1) := ⟨rown_later I.out.1 hb1, chain I.out.2 hb1⟩
        clear hb1 BK I
        go_wp2_with (first
          | (at_builtin; refine Go.Lib.wpList_append_own_string _ rfl _ _ 30 9 rfl w.heap.size 5 i0 Tryd.underlying30 Tryd.underlying9 hi hz0 hz1 hz2 _ _ _ rfl I1.out.1 B rfl (by have := dB.out.2; unfold maxLen; omega) (by have := dB.out.2; omega) I1.out.2.size ?_; intro v1 w2 hown1 hgrow1 hnil1))
        go_roundw
        case rel =>
          refine ⟨0 + 1, by omega, by go_num, ?_, I1.out.2.grown hgrow1 I1.out.2.size (fun q hq => (I1.out.1.lt q hq).1)⟩
          rw [rstr_cells, bcells_app, dB.out.1, dB.out.2] at hown1
          rw [GS.out]
          exact hown1
        case measure => simp [intOf]
      · obtain ⟨r, hr⟩ : ∃ r, 64 * q = r := ⟨_, rfl⟩
        rw [hr] at I hlt ⊢
        have m0 : (r : Int) < (m : Int) := by omega
        go_wp2_with fail
        refine Calls.mono (BK.out _) ?_
        rintro e w1 ⟨rfl, hb1⟩
        have I1 : Hid (w1.ownsRow w.heap.size 5 1 (.slice (some ⟨g, 0, none⟩) r cap) r (bcells (G q)) ∧ Below w.heap.size w w1) := ⟨rown_later I.out.1 hb1, chain I.out.2 hb1⟩
        clear hb1 BK I hcell
        go_wp2_with (first
          | (at_builtin; refine Go.Lib.wpList_append_own_string _ rfl _ _ 30 9 rfl w.heap.size 5 i0 Tryd.underlying30 Tryd.underlying9 hi hz0 hz1 hz2 _ _ _ rfl I1.out.1 B rfl (by have := dB.out.2; unfold maxLen; omega) (by have := dB.out.2; omega) I1.out.2.size ?_; intro v1 w2 hown1 hgrow1 hnil1))
        go_roundw
        case rel =>
          refine ⟨q + 1, by omega, by go_num, ?_, I1.out.2.grown hgrow1 I1.out.2.size (fun q hq => (I1.out.1.lt q hq).1)⟩
          rw [rstr_cells, bcells_app, dB.out.1, dB.out.2] at hown1
          rw [GS.out, show 64 * (q + 1) = r + 64 by omega]
          exact hown1
        case measure => simp [intOf]; omega
    · have HX : Hid ((G q).take m = X) := HG.out.2.2.2 q (by omega)
      rcases hor with ⟨rfl, h0⟩ | ⟨g, cap, rfl, hcap, hcapm, hcell⟩
      · have hm0 : m = 0 := by omega
        subst hm0
        have X0 : Hid (X = []) := List.length_eq_zero_iff.1 LX.out
        rw [show ((0 : Nat) : Int) = 0 from rfl]
        have CV : (convert 30 9 (.slice none 0 0)).run Tryd.prog wr = .ok (.string ⟨#[]⟩) wr := by kernel_rfl
        go_wp2
        go_ret
        exact ⟨by rw [X0.out]; rfl, I.out.2⟩
      · obtain ⟨r, hr⟩ : ∃ r, 64 * q = r := ⟨_, rfl⟩
        rw [hr] at hcap hl ⊢
        have m0 : ¬ (r : Int) < (m : Int) := by omega
        have m1 : (m : Int) ≤ (cap : Int) := by omega
        have cb : (cap : Int) ≤ 9223372036854775807 := by omega
        have CV : (convert 30 9 (.slice (some ⟨g, 0, none⟩) m cap)).run Tryd.prog wr = .ok (.string ⟨X.toArray⟩) wr := by
          have := run_convert_bytes_back (P := Tryd.prog) wr 30 9 5 ⟨g, 0, none⟩ cap X Tryd.underlying30 Tryd.underlying5 Tryd.underlying9 (fun j hj => by
            have q' : Addr.add ⟨g, 0, none⟩ j = ⟨g, j, none⟩ := by simp [Addr.add]; intro h; exact h.symm
            have hj' : j < (G q).length := by have := LX.out; omega
            rw [q', hcell j hj']
            have e : X[j] = (G q)[j] := by
              have : X[j]? = (G q)[j]? := by rw [← HX.out, List.getElem?_take_of_lt (by have := LX.out; omega)]
              rw [List.getElem?_eq_getElem hj, List.getElem?_eq_getElem hj'] at this
              exact Option.some.inj this
            rw [e])
          rw [LX.out] at this; exact this
        clear hcell
        go_wp2
        go_ret
        exact ⟨rfl, I.out.2⟩

theorem sapp_one {o : Oper} {a : Act} {K : Act → World → Prop} {Q : Exit → Act → World → Prop} (base : Nat) (wr : World) (R : Int) (x : UInt8) (hR : R = (x.toNat : Int)) (i0 : TypeInfo) (hi : Tryd.prog.info? 5 = some i0) (hz0 : i0.zero = some (.int .u8 0)) (hz1 : i0.size = 1) (hz2 : i0.bytes = 1)
    (s y : Operand) (ho : o.op = .call { callee := .builtin .append, args := #[s, y], argTypes := #[30, 30] }) (v : Value) (n : Nat) (l : List UInt8) (hs : a.eval s = v) (hown : wr.ownsRow base 5 1 v n (bcells l)) (hy : a.eval y = .slice (some ⟨wr.heap.size, 0, none⟩) 1 1) (hn : n ≤ 140737488355000) (hb : base ≤ wr.heap.size)
    (h : ∀ v' w', w'.ownsRow base 5 1 v' (n + 1) (bcells (l ++ [x])) → (∀ w0, w0.heap.size = base → Below base w0 wr → Below base w0 w') → K (a.put o.dst v') w') : o.wp Tryd.prog a (wr.alloc (.cells #[.int .u8 R] 5)).drew K Q := by
  subst hR
  refine wp_append_own _ s y 30 ho base 5 i0 (.int .u8 0) 1 1 Tryd.underlying30 hi hz0 hz1 hz2 rfl (by decide) v n (bcells l) hs (hown.alloc _) ⟨wr.heap.size, 0, none⟩ 1 1 [.int .u8 (x.toNat : Int)] hy rfl (cells_newd _ _ _) (by intro u hu; simp at hu; subst hu; rfl) (by unfold maxLen; omega) (by omega) (by show base ≤ (wr.alloc _).heap.size; simp; omega) ?_
  intro v1 w1 hown1 hgrow1 _
  refine h v1 w1 ?_ (fun w0 hw0 hbel => ?_)
  · unfold bcells at *
    rw [List.map_append]
    exact hown1
  · exact ((hbel.alloc (by omega) _).drew).grown hgrow1 (by show base ≤ (wr.alloc _).heap.size; simp; omega) (fun q hq => (hown.lt q hq).1)
theorem xorl_take (a b : List UInt8) (q : Nat) (h1 : q < a.length) (h2 : q < b.length) : xorl (a.take (q + 1)) (b.take (q + 1)) = xorl (a.take q) (b.take q) ++ [a[q] ^^^ b[q]] := by
  rw [List.take_succ_eq_append_getElem h1, List.take_succ_eq_append_getElem h2]
  unfold xorl
  rw [List.zipWith_append (by rw [List.length_take, List.length_take]; omega)]
  rfl

set_option maxHeartbeats 1000000 in
theorem rWith_any (a b : ByteArray) (hab : a.size = b.size) (ha : a.size ≤ 65536) (w : World) :
    Calls Tryd.prog 32 #[.string a, .string b] w fun e w' => e = .returned (.string ⟨(xorl a.data.toList b.data.toList).toArray⟩) ∧ Below w.heap.size w w' := by
  obtain ⟨i0, hi, hz0, hz1, hz2⟩ := info_parts infoByte
  have la : Hid (a.data.toList.length = a.size ∧ b.data.toList.length = b.size) := ⟨by simp, by simp⟩
  have HAB : Hid (a.size = b.size) := hab
  clear hab
  go_enter Tryd.func32, Tryd.ntmps32
  go_wp2
  go_loopw [5, 6] (fun sl i wr => ∃ q : Nat, q ≤ a.size ∧ i = .int .i64 (q : Int) ∧ Hid (wr.ownsRow w.heap.size 5 1 sl q (bcells (xorl (a.data.toList.take q) (b.data.toList.take q))) ∧ Below w.heap.size w wr)) (fun _ i _ => a.size - (intOf i).toNat)
  case atStart => exact ⟨0, Nat.zero_le _, rfl, ⟨rfl, .inl ⟨rfl, rfl⟩⟩, Below.refl _ _⟩
  case round =>
    obtain ⟨q, hq, rfl, I⟩ := hrel
    by_cases hlt : q < a.size
    · have l2 : q < b.size := by have := HAB.out; omega
      have z1 : (q : Int) < (a.size : Int) := by omega
      have z2 : (q : Int) < (b.size : Int) := by omega
      have XT : Hid (_ = _) := xorl_take a.data.toList b.data.toList q (by rw [la.out.1]; exact hlt) (by rw [la.out.2]; exact l2)
      obtain ⟨x, hx⟩ : ∃ x, a[q] = x := ⟨_, rfl⟩
      obtain ⟨y, hy⟩ : ∃ y, b[q] = y := ⟨_, rfl⟩
      have e1 : a.data.toList[q]'(by rw [la.out.1]; exact hlt) = x := hx
      have e2 : b.data.toList[q]'(by rw [la.out.2]; exact l2) = y := hy
      rw [e1, e2] at XT
      have XY : Hid (((x.toNat ^^^ y.toNat : Nat) : Int) = ((x ^^^ y).toNat : Int)) := by show _ = _; rw [UInt8.toNat_xor]
      have XZ : Hid (bits .xor .u8 (x.toNat : Int) (y.toNat : Int) = ((x ^^^ y).toNat : Int)) := sxor8 x y
      clear e1 e2
      go_wp2
      refine (fun (KEY : ∀ (v1 : Value) (w1 : World), Hid (w1.ownsRow w.heap.size 5 1 v1 (q + 1) (bcells (xorl (a.data.toList.take (q + 1)) (b.data.toList.take (q + 1)))) ∧ Below w.heap.size w w1) → (?KK : Value → World → Prop) v1 w1) => ?mainA) ?keyA
      case mainA =>
        go_region_held3 (fun _ => True) (trivial) (first | (rw [if_pos (by kernel_rfl)]; refine sapp_one w.heap.size wr _ (x ^^^ y) ?_ i0 hi hz0 hz1 hz2 (.tmp 13) (.tmp 21) rfl _ q _ rfl I.out.1 rfl (by omega) I.out.2.size ?_; (focus first | exact XY.out | exact XZ.out); intro v1 w1 hown1 hbel1))
        all_goals exact KEY v1 w1 ⟨by rw [XT.out]; exact hown1, hbel1 w rfl I.out.2⟩
      intro v1 w1 NX
      go_wp2
      go_roundw
      case rel => exact ⟨q + 1, by omega, by go_num, NX.out⟩
      case measure => simp [intOf]; omega
    · have hqa : q = a.size := by omega
      have z1 : ¬ (q : Int) < (a.size : Int) := by omega
      have CV := rown_string I.out.1 wr (Below.refl _ _)
      have FE : Hid (xorl (a.data.toList.take q) (b.data.toList.take q) = xorl a.data.toList b.data.toList) := by
        show _ = _
        rw [List.take_of_length_le (by rw [la.out.1]; omega), List.take_of_length_le (by rw [la.out.2, ← HAB.out]; omega)]
      rw [FE.out] at CV
      have HQ : Hid (q = a.size) := hqa
      clear hqa
      go_wp2
      go_ret
      exact ⟨rfl, I.out.2⟩
end Go.Proofs.YtbkefhfbbhdpcaaDoor
