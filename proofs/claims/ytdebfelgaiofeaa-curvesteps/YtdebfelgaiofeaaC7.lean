/- What hex of the statements' package does. -/
import Derived.Test.YtdebfelgaiofeaaCB
import Derived.Maps.AppendAt
import Derived.Deep.RegionHeld3
namespace Go.Proofs.Ytdebfelgaiofeaa
open Go.RowKit Go.Proofs.Fd

/-- One digit more. -/
def hstep (n c : UInt8) : UInt8 := if 97 ≤ c then n * 16 + c - 97 + 10 else n * 16 + c - 48
/-- The k-th byte of digits. -/
def hbyte (s : ByteArray) (k : Nat) : UInt8 := hstep (hstep 0 (s.data.toList.getD (2 * k) 0)) (s.data.toList.getD (2 * k + 1) 0)
/-- The first k bytes of digits. -/
def hlist (s : ByteArray) (k : Nat) : List UInt8 := (List.range k).map (hbyte s)
theorem hlist_succ (s : ByteArray) (k : Nat) : hlist s (k + 1) = hlist s k ++ [hbyte s k] := by simp [hlist, List.range_succ]
theorem hlist_len (s : ByteArray) (k : Nat) : (hlist s k).length = k := by simp [hlist]

/-- Bytes as cells. -/
def bcells (l : List UInt8) : List Value := l.map fun b => .int .u8 b.toNat

theorem infoByte : (Try.prog.info? 5).map (fun i => (i.zero, i.size, i.bytes)) = some (some (.int .u8 0), 1, 1) := by kernel_rfl

theorem hstep_hi (n c : UInt8) (h : (97 : Int) ≤ (c.toNat : Int)) : IntKind.u8.wrap (IntKind.u8.wrap (IntKind.u8.wrap (IntKind.u8.wrap ((n.toNat : Int) * 16) + (c.toNat : Int)) - 97) + 10) = ((hstep n c).toNat : Int) := by
  have e : hstep n c = n * 16 + c - 97 + 10 := by unfold hstep; rw [if_pos (by rw [UInt8.le_iff_toNat_le]; show 97 ≤ c.toNat; omega)]
  rw [e]
  simp only [IntKind.wrap_u8, UInt8.toNat_add, UInt8.toNat_sub, UInt8.toNat_mul]
  have h1 : (97 : UInt8).toNat = 97 := rfl
  have h2 : (10 : UInt8).toNat = 10 := rfl
  have h3 : (16 : UInt8).toNat = 16 := rfl
  rw [h1, h2, h3]
  omega

theorem hstep_lo (n c : UInt8) (h : ¬ (97 : Int) ≤ (c.toNat : Int)) : IntKind.u8.wrap (IntKind.u8.wrap (IntKind.u8.wrap ((n.toNat : Int) * 16) + (c.toNat : Int)) - 48) = ((hstep n c).toNat : Int) := by
  have e : hstep n c = n * 16 + c - 48 := by unfold hstep; rw [if_neg (by rw [UInt8.le_iff_toNat_le]; show ¬ 97 ≤ c.toNat; omega)]
  rw [e]
  simp only [IntKind.wrap_u8, UInt8.toNat_add, UInt8.toNat_sub, UInt8.toNat_mul]
  have h1 : (48 : UInt8).toNat = 48 := rfl
  have h3 : (16 : UInt8).toNat = 16 := rfl
  rw [h1, h3]
  omega

theorem owns_bytes {w : World} {base n : Nat} {v : Value} {l : List UInt8} (h : w.ownsRow base 5 1 v n (bcells l)) : l.length = n ∧ ((v = .slice none 0 0 ∧ n = 0) ∨ ∃ g cap, v = .slice (some ⟨g, 0, none⟩) n cap ∧ ∀ j (hj : j < l.length), w.cell? ⟨g, j, none⟩ = some (.int .u8 (l[j].toNat : Int))) := by
  obtain ⟨h1, h2⟩ := h
  have hl : l.length = n := by simpa [bcells] using h1
  refine ⟨hl, ?_⟩
  rcases h2 with h2 | ⟨g, cap, cur, rfl, -, hh, -, -, -, ht⟩
  · exact .inl h2
  · refine .inr ⟨g, cap, rfl, fun j hj => ?_⟩
    have e : cur[j]? = (bcells l)[j]? := by
      rw [← ht, List.getElem?_take_of_lt (by omega)]; simp
    unfold World.cell?
    rw [hh]
    simp only [Option.isSome_none]
    show cur[j]? = _
    rw [e]; simp [bcells, hj]

set_option maxHeartbeats 1000000 in
theorem hex_any (s : ByteArray) (hs : s.size = 64) (w : World) :
    Calls Try.prog 31 #[.string s] w fun e w' => e = .returned (.string ⟨(hlist s 32).toArray⟩) ∧ Below w.heap.size w w' := by
  obtain ⟨i0, hi, hz0, hz1, hz2⟩ := info_parts infoByte
  go_enter Try.func31, Try.ntmps31
  go_wp2
  go_loopw [3, 4] (fun v i wr => ∃ k : Nat, k ≤ 32 ∧ i = .int .i64 ((2 * k : Nat) : Int) ∧ Hid (wr.ownsRow w.heap.size 5 1 v k (bcells (hlist s k)) ∧ Below w.heap.size w wr)) (fun _ i _ => 64 - (intOf i).toNat)
  case atStart => exact ⟨0, by omega, rfl, ⟨rfl, .inl ⟨rfl, rfl⟩⟩, Below.refl _ _⟩
  case round =>
    obtain ⟨k, hk, rfl, I⟩ := hrel
    by_cases hk2 : k = 32
    · subst hk2
      obtain ⟨hl, hor⟩ := owns_bytes I.out.1
      rcases hor with ⟨-, h⟩ | ⟨g, cap, rfl, hcell⟩
      · exact absurd h (by decide)
      · have CV : (convert 34 9 (.slice (some ⟨g, 0, none⟩) 32 cap)).run Try.prog wr = .ok (.string ⟨(hlist s 32).toArray⟩) wr := by
          have := run_convert_bytes_back (P := Try.prog) wr 34 9 5 ⟨g, 0, none⟩ cap (hlist s 32) Try.underlying34 Try.underlying5 Try.underlying9 (fun j hj => by
            have q : Addr.add ⟨g, 0, none⟩ j = ⟨g, j, none⟩ := by simp [Addr.add]; intro h; exact h.symm
            rw [q]; exact hcell j hj)
          rw [hl] at this; exact this
        clear hcell
        go_wp2
        go_ret
        exact ⟨rfl, I.out.2⟩
    · have b0 : 2 * k < s.size := by omega
      have b1 : 2 * k + 1 < s.size := by omega
      have p0 : (0 : Int) ≤ 2 * (k : Int) := by omega
      have p1 : 2 * (k : Int) < 64 := by omega
      have p2 : (0 : Int) ≤ 2 * (k : Int) + 1 := by omega
      have p3 : 2 * (k : Int) + 1 < 64 := by omega
      have t0 : (2 * (k : Int)).toNat = 2 * k := by omega
      have t1 : (2 * (k : Int) + 1).toNat = 2 * k + 1 := by omega
      go_wp2
      go_region
      all_goals
        obtain ⟨c0, hc0⟩ : ∃ c, s[2 * k] = c := ⟨_, rfl⟩
        obtain ⟨c1, hc1⟩ : ∃ c, s[2 * k + 1] = c := ⟨_, rfl⟩
        have HB : Hid (hbyte s k = hstep (hstep 0 c0) c1) := by
          show hstep (hstep 0 (s.data.toList.getD (2 * k) 0)) (s.data.toList.getD (2 * k + 1) 0) = _
          have e0 : s.data.toList.getD (2 * k) 0 = c0 := by
            rw [← hc0, List.getD_eq_getElem?_getD, List.getElem?_eq_getElem (by simpa using b0)]; rfl
          have e1 : s.data.toList.getD (2 * k + 1) 0 = c1 := by
            rw [← hc1, List.getD_eq_getElem?_getD, List.getElem?_eq_getElem (by simpa using b1)]; rfl
          rw [e0, e1]
        go_wp2
        rw [hc0, hc1]
        obtain ⟨W, hW⟩ : ∃ W, (wr.alloc (.cells #[.int .u8 (c0.toNat : Int), .int .u8 (c1.toNat : Int)] 5)).drew = W := ⟨_, rfl⟩
        have C0 : W.cell? ⟨wr.heap.size, 0, none⟩ = some (.int .u8 (c0.toNat : Int)) := by rw [← hW]; simp [go_sem]
        have C1 : W.cell? ⟨wr.heap.size, 1, none⟩ = some (.int .u8 (c1.toNat : Int)) := by rw [← hW]; simp [go_sem]
        have OW : Hid (W.ownsRow w.heap.size 5 1 u3 k (bcells (hlist s k)) ∧ Below w.heap.size w W) := by
          rw [← hW]
          exact ⟨(I.out.1.alloc _).drew, (I.out.2.alloc I.out.2.size _).drew⟩
        rw [hW]
        clear hW hc0 hc1 b0 b1
        go_loopw [5, 24] (fun n i wx => ∃ j : Nat, j ≤ 2 ∧ i = .int .i64 (j : Int) ∧ n = .int .u8 (((if j = 0 then 0 else if j = 1 then hstep 0 c0 else hstep (hstep 0 c0) c1 : UInt8).toNat : Nat) : Int) ∧ wx = W) (fun _ i _ => 2 - (intOf i).toNat)
        case atStart => exact ⟨0, by omega, rfl, rfl, rfl⟩
        case round =>
          obtain ⟨j, hj, rfl, rfl, hwx⟩ := hrel
          rw [hwx]
          clear hwx
          rcases (by omega : j = 0 ∨ j = 1 ∨ j = 2) with rfl | rfl | rfl
          · by_cases h : (97 : Int) ≤ (c0.toNat : Int)
            · have Hh : Hid (_ = _) := hstep_hi 0 c0 h
              go_wp2
              go_roundw
              case rel =>
                refine ⟨1, by omega, by go_num, ?_, trivial⟩
                show Value.int .u8 _ = Value.int .u8 ((hstep 0 c0).toNat : Int)
                rw [← Hh.out]; congr 1; simp only [IntKind.wrap_u8]
                have z : UInt8.toNat 0 = 0 := rfl
                rw [z]; omega
              case measure => simp [intOf]
            · have Hh : Hid (_ = _) := hstep_lo 0 c0 h
              go_wp2
              go_roundw
              case rel =>
                refine ⟨1, by omega, by go_num, ?_, trivial⟩
                show Value.int .u8 _ = Value.int .u8 ((hstep 0 c0).toNat : Int)
                rw [← Hh.out]; congr 1; simp only [IntKind.wrap_u8]
                have z : UInt8.toNat 0 = 0 := rfl
                rw [z]; omega
              case measure => simp [intOf]
          · obtain ⟨n1, hn1⟩ : ∃ n, hstep 0 c0 = n := ⟨_, rfl⟩
            rw [show (if 1 = 0 then 0 else if 1 = 1 then hstep 0 c0 else hstep (hstep 0 c0) c1 : UInt8) = hstep 0 c0 from rfl, hn1]
            by_cases h : (97 : Int) ≤ (c1.toNat : Int)
            · have Hh : Hid (_ = _) := hstep_hi n1 c1 h
              go_wp2
              go_roundw
              case rel =>
                refine ⟨2, by omega, by go_num, ?_, trivial⟩
                show Value.int .u8 _ = Value.int .u8 ((hstep n1 c1).toNat : Int)
                rw [← Hh.out]; congr 1; simp only [IntKind.wrap_u8]; try omega
              case measure => simp [intOf]
            · have Hh : Hid (_ = _) := hstep_lo n1 c1 h
              go_wp2
              go_roundw
              case rel =>
                refine ⟨2, by omega, by go_num, ?_, trivial⟩
                show Value.int .u8 _ = Value.int .u8 ((hstep n1 c1).toNat : Int)
                rw [← Hh.out]; congr 1; simp only [IntKind.wrap_u8]; try omega
              case measure => simp [intOf]
          · rw [show (if 2 = 0 then 0 else if 2 = 1 then hstep 0 c0 else hstep (hstep 0 c0) c1 : UInt8) = hstep (hstep 0 c0) c1 from rfl, ← HB.out]
            go_wp2_with (first
              | (at_builtin; refine wpList_append_own _ rfl (.tmp 42) (.tmp 44) 34 rfl w.heap.size 5 i0 (.int .u8 0) 1 1 Try.underlying34 hi hz0 hz1 hz2 rfl (by decide) _ _ _ rfl (OW.out.1.alloc _) ⟨W.heap.size, 0, none⟩ 1 1 [.int .u8 ((hbyte s k).toNat : Int)] rfl rfl (cell_one_new _ _ _) (by intro u hu; simp at hu; subst hu; rfl) (by unfold maxLen; omega) (by omega) (by have := OW.out.2.size; simp; omega) ?_; intro v1 w1 hown1 hgrow1 hnil1))
            go_roundw
            case rel =>
              refine ⟨k + 1, by omega, by go_num, ?_, ?_⟩
              · rw [hlist_succ]; unfold bcells; rw [List.map_append]; exact hown1
              · exact (OW.out.2.alloc OW.out.2.size _).grown hgrow1 (by have := OW.out.2.size; simp; omega) (fun j hj => (OW.out.1.lt j hj).1)
            case measure => simp [intOf]; omega
end Go.Proofs.Ytdebfelgaiofeaa
