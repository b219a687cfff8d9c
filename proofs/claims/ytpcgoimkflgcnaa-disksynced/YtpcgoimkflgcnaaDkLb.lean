/- DiskSynced. -/
import Derived.Test.YtpcgoimkflgcnaaDkL1
import Derived.Deep.CutBlock
namespace Go.Proofs.Ytpcgoimkflgcnaa
open Go.RowKit Go.Proofs.Fd Go.Proofs.Dk
set_option maxRecDepth 20000

/-- Strings that lie in a row. -/
def StrAt (w : World) (a : Option Addr) (ks : List ByteArray) : Prop := ∀ i (hi : i < ks.length), ∃ b o, a = some ⟨b, o, none⟩ ∧ w.cell? ⟨b, o + i, none⟩ = some (.string ks[i])
theorem StrAt.later {W w1 : World} {a : Option Addr} {ks : List ByteArray} (h : StrAt W a ks) (hb : Below W.heap.size W w1) : StrAt w1 a ks := fun i hi => by
  obtain ⟨b, o, e, hc⟩ := h i hi
  exact ⟨b, o, e, cell_later hb hc⟩
/-- The law's own row of what it wants: as many strings, at B, beside a disk. -/
structure Wn (w wr : World) (p : Nat) (F : Nat → Prop) (s : St) (B N : Nat) (g : Nat → ByteArray) : Prop where
  dl : Dl w wr p F s
  nF : ¬ F B
  nB : w.heap.size ≤ B
  c : ∀ j, j < N → wr.cell? ⟨B, j, none⟩ = some (.string (g j))
  fr : ∀ j, wr.frozen? ⟨B, j, none⟩ = false
  n1 : 1 ≤ N
theorem Wn.lt {w wr : World} {p : Nat} {F : Nat → Prop} {s : St} {B N : Nat} {g : Nat → ByteArray} (h : Wn w wr p F s B N g) : B < wr.heap.size := World.block_lt_of_cell? _ _ (h.c 0 h.n1)
theorem Wn.same {w wr w' : World} {p : Nat} {F F' : Nat → Prop} {s t : St} {B N : Nat} {g : Nat → ByteArray} (h : Wn w wr p F s B N g) (k : Dl w w' p F' t) (hx : Nx wr F F') (hs : w'.heap[B]? = wr.heap[B]?) : Wn w w' p F' t B N g :=
  ⟨k, fun c => by
    rcases hx B c with e | e
    · exact h.nF e
    · have := h.lt
      omega, h.nB, fun j hj => (World.cell?_of_block (a := ⟨B, j, none⟩) hs).trans (h.c j hj), fun j => (World.frozen?_of_block (a := ⟨B, j, none⟩) hs).trans (h.fr j), h.n1⟩
theorem Wn.stp {w wr w' : World} {p : Nat} {F F' : Nat → Prop} {s t : St} {B N : Nat} {g : Nat → ByteArray} (h : Wn w wr p F s B N g) (k : Dl w w' p F' t) (hx : Nx wr F F') (hb : Bf F wr w') : Wn w w' p F' t B N g := h.same k hx (hb.block B h.lt h.nF)
theorem Wn.later {w wr w' : World} {p : Nat} {F : Nat → Prop} {s : St} {B N : Nat} {g : Nat → ByteArray} (h : Wn w wr p F s B N g) (hb : Below wr.heap.size wr w') : Wn w w' p F s B N g := h.same (h.dl.later hb) (Nx.refl _ _) (hb.block B h.lt)
def ug (g : Nat → ByteArray) (k : Nat) (x : ByteArray) : Nat → ByteArray := fun j => if j = k then x else g j
theorem Wn.set {w wr : World} {p : Nat} {F : Nat → Prop} {s : St} {B N : Nat} {g : Nat → ByteArray} (h : Wn w wr p F s B N g) (k : Nat) (x : ByteArray) : Wn w (wr.setCell ⟨B, k, none⟩ (.string x)) p F s B N (ug g k x) := by
  have hb : Bf (fun q => q = B) wr (wr.setCell ⟨B, k, none⟩ (.string x)) := Bf.set _ wr B k _ rfl
  refine ⟨⟨h.dl.at_.other hb (fun q hq e => h.nF (by rw [← e]; exact hq)), h.dl.new, h.dl.below.trans (hb.below (fun q e => by rw [e]; exact h.nB) h.dl.below.size)⟩, h.nF, h.nB, fun j hj => ?_, fun j => by rw [World.frozen?_setCell]; exact h.fr j, h.n1⟩
  unfold ug
  split
  · rename_i e
    subst e
    rw [World.cell?_setCell_same _ _ _ (by rw [h.c j hj])]
  · rename_i e
    rw [World.cell?_setCell_other _ _ _ _ (fun q => e (by injection q with q1 q2 q3; exact q2.symm)), h.c j hj]
/-- The writes so far; what is wanted of them. -/
def wl8 (ks : List ByteArray) (k : Nat) : List Wt := (List.range k).map fun i => ⟨i % 8, sec (ks.getD i ⟨#[]⟩).data.toList⟩
theorem wl8_len (ks : List ByteArray) (k : Nat) : (wl8 ks k).length = k := by simp [wl8]
theorem wl8_succ (ks : List ByteArray) (k : Nat) (hk : k < ks.length) : wl8 ks (k + 1) = wl8 ks k ++ [⟨k % 8, sec ks[k].data.toList⟩] := by
  simp [wl8, List.range_succ, hk]
def Gd (g : Nat → ByteArray) (f : Nat → Bs) : Prop := ∀ j, (g j = ⟨#[]⟩ ∧ f j = zs j) ∨ (g j = st (f j) ∧ (f j).length = 64)
theorem Gd.set {g : Nat → ByteArray} {f : Nat → Bs} (h : Gd g f) (k : Nat) {b : Bs} (hb : b.length = 64) : Gd (ug g k (st b)) (upd f k b) := fun j => by
  unfold ug upd
  split
  · exact .inr ⟨rfl, hb⟩
  · exact h j
theorem sec_nil : sec [] = zs 0 := by decide
theorem tear_nil (ps : List Int) (f : Nat → Bs) (i : Nat) : tear ps f [] i = f := rfl
theorem infoStr : (Try.prog.info? 9).map (fun i => (i.zero, i.size, i.bytes)) = some (some (.string ⟨#[]⟩), 1, 16) := by kernel_rfl
theorem index8 (g : Nat → ByteArray) (j : Nat) (hj : j < 8) (w : World) : (Instr.index 51 (.agg #[.string (g 0), .string (g 1), .string (g 2), .string (g 3), .string (g 4), .string (g 5), .string (g 6), .string (g 7)]) (.int .i64 (j : Int))).run Try.prog w = .ok (.string (g j)) w := by
  obtain ⟨i0, hi, hz0, hz1, hz2⟩ := info_parts infoStr
  have h8 : (j : Int) < 8 := by omega
  rcases (by omega : j = 0 ∨ j = 1 ∨ j = 2 ∨ j = 3 ∨ j = 4 ∨ j = 5 ∨ j = 6 ∨ j = 7) with rfl | rfl | rfl | rfl | rfl | rfl | rfl | rfl <;>
    simp [Instr.index, asIntOf, run_underlying Try.underlying51, part, isAgg, run_underlying Try.underlying9, sizeOf, typeInfo, hi, hz1]
set_option maxHeartbeats 2000000 in
theorem DiskSynced_walk (a : Option Addr) (ks : List ByteArray) (len cap : Nat) (hn : ks.length = len) (a1 : Option Addr) (ps : List Int) (len1 cap1 : Nat) (hn1 : ps.length = len1) (w : World) (h : Hid (StrAt w a ks)) (h1 : Hid (IntAt w a1 ps)) :
    Calls Try.prog 4 #[.slice a len cap, .slice a1 len1 cap1] w fun e w' => e = .returned (.bool true) ∧ Below w.heap.size w w' := by
  have HN : Hid (ks.length = len) := hn
  have HN1 : Hid (ps.length = len1) := hn1
  have NW : Hid _ := newL w w 8 (by decide) (by decide) (Below.refl _ _)
  have WK : Hid (∀ w, _) := works_any
  clear hn hn1
  go_enter Try.func4, Try.ntmps4
  go_wp2_with fail
  refine Calls.mono NW.out ?_
  rintro e w1 ⟨p, F, rfl, I1, -, -⟩
  have J1 : Hid _ := I1
  clear NW I1
  go_wp2_with fail
  refine Calls.mono (WK.out _) ?_
  rintro e w2 ⟨rfl, hb⟩
  have J2 : Hid _ := J1.out.later hb
  clear J1 hb WK
  go_upto_block 0 with fail
  have W0 : Hid (Wn w (w2.alloc (.cells #[.string ⟨#[]⟩, .string ⟨#[]⟩, .string ⟨#[]⟩, .string ⟨#[]⟩, .string ⟨#[]⟩, .string ⟨#[]⟩, .string ⟨#[]⟩, .string ⟨#[]⟩] 51)) p F (ups 8 zs []) w2.heap.size 8 (fun _ => ⟨#[]⟩)) :=
    ⟨J2.out.later ((Below.refl _ _).alloc (Nat.le_refl _) _), fun c => Nat.lt_irrefl _ (J2.out.at_.lt c), J2.out.below.size, fun j hj => by
      rw [World.cell?_alloc_new]
      rcases (by omega : j = 0 ∨ j = 1 ∨ j = 2 ∨ j = 3 ∨ j = 4 ∨ j = 5 ∨ j = 6 ∨ j = 7) with rfl | rfl | rfl | rfl | rfl | rfl | rfl | rfl <;> rfl, fun j => by simp [go_sem], by decide⟩
  obtain ⟨B, hB⟩ : ∃ B, w2.heap.size = B := ⟨_, rfl⟩
  obtain ⟨w3, hw3⟩ : ∃ w3, w2.alloc (.cells #[.string ⟨#[]⟩, .string ⟨#[]⟩, .string ⟨#[]⟩, .string ⟨#[]⟩, .string ⟨#[]⟩, .string ⟨#[]⟩, .string ⟨#[]⟩, .string ⟨#[]⟩] 51) = w3 := ⟨_, rfl⟩
  rw [hB] at W0 ⊢
  rw [hw3] at W0 ⊢
  clear J2 hB hw3
  go_cut [8, 9, 10] (fun s8 s9 s10 wx => ∃ (k : Nat) (F : Nat → Prop) (g : Nat → ByteArray), k ≤ 40 ∧ Hid (Wn w wx p F (ups 8 zs (wl8 ks k)) B 8 g ∧ Gd g (lay zs (wl8 ks k))))
  case first =>
    go_wp2_with fail
    go_loopw [8] (fun i wr => ∃ (k : Nat) (F : Nat → Prop) (g : Nat → ByteArray), k ≤ len ∧ k ≤ 40 ∧ i = .int .i64 (k : Int) ∧ Hid (Wn w wr p F (ups 8 zs (wl8 ks k)) B 8 g ∧ Gd g (lay zs (wl8 ks k)))) (fun i wr => 40 - (intOf i).toNat)
    case atStart => exact ⟨0, F, _, Nat.zero_le _, Nat.zero_le _, rfl, W0.out, fun j => .inl ⟨rfl, rfl⟩⟩
    case round =>
      obtain ⟨k, F, g, hk, hk40, rfl, I⟩ := hrel
      clear W0
      by_cases hl1 : k < len
      · by_cases hl2 : k < 40
        · have _zz : True := trivial
          clear _zz
          have g1 : (k : Int) < (len : Int) := by omega
          have g2 : (k : Int) < 40 := by omega
          have hkl : k < ks.length := by have := HN.out; omega
          obtain ⟨b, o, rfl, c0⟩ := (h.out.later I.out.1.dl.below) k hkl
          have WS := wl8_succ ks k hkl
          obtain ⟨x, hx⟩ : ∃ x, ks[k] = x := ⟨_, rfl⟩
          rw [hx] at c0 WS
          have HWS : Hid (wl8 ks (k + 1) = _) := WS
          have SX : Hid (∀ w, _) := sector_any x
          have LS : Hid _ := sec_len x.data.toList
          obtain ⟨S, hS⟩ : ∃ S, sec x.data.toList = S := ⟨_, rfl⟩
          rw [hS] at HWS SX LS
          clear WS hx hS
          have z8 : (k : Int) % 8 = ((k % 8 : Nat) : Int) := by omega
          obtain ⟨r, hr⟩ : ∃ r, k % 8 = r := ⟨_, rfl⟩
          have hr8 : r < 8 := by omega
          have g3 : (r : Int) < 8 := by omega
          rw [hr] at z8 HWS
          clear hr
          go_wp2_with fail
          refine Calls.mono (SX.out _) ?_
          rintro e w4 ⟨rfl, hb⟩
          have I2 : Hid (Wn w w4 p F (ups 8 zs (wl8 ks k)) B 8 g ∧ Gd g (lay zs (wl8 ks k))) := ⟨I.out.1.later hb, I.out.2⟩
          clear I hb SX
          go_wp2_with fail
          refine Calls.mono (writeU w w4 p F 8 zs (wl8 ks k) r S hr8 LS.out (by rw [wl8_len]; omega) I2.out.1.dl) ?_
          rintro e w5 ⟨rfl, F5, k1, k2, k3⟩
          have I3 : Hid (Wn w w5 p F5 (ups 8 zs (wl8 ks k ++ [⟨r, S⟩])) B 8 g ∧ Gd g (lay zs (wl8 ks k))) := ⟨I2.out.1.stp k1 k2 k3, I2.out.2⟩
          have cB := I3.out.1.c r hr8
          have fB := I3.out.1.fr r
          have I4 : Hid (Wn w (w5.setCell ⟨B, r, none⟩ (sv S)) p F5 (ups 8 zs (wl8 ks (k + 1))) B 8 (ug g r (st S)) ∧ Gd (ug g r (st S)) (lay zs (wl8 ks (k + 1)))) := by
            rw [HWS.out, lay_app]
            exact ⟨I3.out.1.set r (st S), I3.out.2.set r LS.out⟩
          clear I2 I3 k1 k2 k3
          go_wp2
          go_roundw
          case rel => exact ⟨k + 1, F5, _, by omega, by omega, by go_num, I4.out⟩
          case measure => simp [intOf]; omega
        · have g1 : (k : Int) < (len : Int) := by omega
          have g2 : ¬ (k : Int) < 40 := by omega
          go_wp2
          go_meet
          case rel => exact ⟨k, F, g, by omega, I.out⟩
      · have g1 : ¬ (k : Int) < (len : Int) := by omega
        go_wp2
        go_meet
        case rel => exact ⟨k, F, g, by omega, I.out⟩
  case rest =>
    obtain ⟨k, F, g, hk40, I⟩ := hcut
    clear W0
    have HL : Hid ((wl8 ks k).length ≤ 1000000) := by rw [wl8_len]; exact (show k ≤ 1000000 by omega)
    obtain ⟨L, hL⟩ : ∃ L, wl8 ks k = L := ⟨_, rfl⟩
    rw [hL] at I HL
    clear hL
    have P1 : Hid (∀ x, a1 = some x → 0 < ps.length → x.block < w.heap.size) := fun x hx h0 => by
      obtain ⟨b, o, e, hc⟩ := h1.out 0 h0
      rw [e] at hx
      injection hx with hx
      subst hx
      exact World.block_lt_of_cell? _ _ hc
    go_wp2_with fail
    refine Calls.mono (syncU w _ p F 8 zs L HL.out I.out.1.dl) ?_
    rintro e w5 ⟨rfl, F5, k1, k2, k3⟩
    have I5 : Hid (Wn w w5 p F5 (ups 8 (lay zs L) []) B 8 g ∧ Gd g (lay zs L)) := ⟨I.out.1.stp k1 k2 k3, I.out.2⟩
    clear I k1 k2 k3
    go_wp2_with fail
    refine Calls.mono (crashU w w5 p F5 8 (lay zs L) [] a1 len1 cap1 ps HN1.out (Nat.zero_le _) (h1.out.later I5.out.1.dl.below) (fun x hx h0 c => absurd (P1.out x hx h0) (Nat.not_lt.2 (I5.out.1.dl.new _ c))) I5.out.1.dl) ?_
    rintro e w6 ⟨rfl, F6, k1, k2, k3⟩
    rw [tear_nil] at k1
    have I6 : Hid (Wn w w6 p F6 (ups 8 (lay zs L) []) B 8 g ∧ Gd g (lay zs L)) := ⟨I5.out.1.stp k1 k2 k3, I5.out.2⟩
    clear I5 k1 k2 k3
    go_wp2_with fail
    refine Calls.mono (crashU w w6 p F6 8 (lay zs L) [] a1 len1 cap1 ps HN1.out (Nat.zero_le _) (h1.out.later I6.out.1.dl.below) (fun x hx h0 c => absurd (P1.out x hx h0) (Nat.not_lt.2 (I6.out.1.dl.new _ c))) I6.out.1.dl) ?_
    rintro e w7 ⟨rfl, F7, k1, k2, k3⟩
    rw [tear_nil] at k1
    have I7 : Hid (Wn w w7 p F7 (ups 8 (lay zs L) []) B 8 g ∧ Gd g (lay zs L)) := ⟨I6.out.1.stp k1 k2 k3, I6.out.2⟩
    clear I6 k1 k2 k3
    obtain ⟨f, hf⟩ : ∃ f, lay zs L = f := ⟨_, rfl⟩
    rw [hf] at I7
    clear hf HL P1
    have c0 := I7.out.1.c 0 (by decide)
    have c1 := I7.out.1.c 1 (by decide)
    have c2 := I7.out.1.c 2 (by decide)
    have c3 := I7.out.1.c 3 (by decide)
    have c4 := I7.out.1.c 4 (by decide)
    have c5 := I7.out.1.c 5 (by decide)
    have c6 := I7.out.1.c 6 (by decide)
    have c7 := I7.out.1.c 7 (by decide)
    go_wp2_with fail
    go_loopw [70] (fun i wr => ∃ j : Nat, j ≤ 8 ∧ i = .int .i64 (j : Int) ∧ Hid (Dl w wr p F7 (ups 8 f [])) ∧ Hid (Gd g f)) (fun i wr => 8 - (intOf i).toNat)
    case atStart => exact ⟨0, by decide, rfl, I7.out.1.dl, I7.out.2⟩
    case round =>
      obtain ⟨j, hj, rfl, D, G⟩ := hrel
      clear I7 c0 c1 c2 c3 c4 c5 c6 c7
      by_cases hj8 : j < 8
      · have g1 : (j : Int) < 8 := by omega
        have IX := index8 g j hj8
        have RD : Hid (∀ W, Dl w W p F7 (ups 8 f []) → _) := fun W hW => readU w W p F7 8 f [] j hj8 hW
        obtain ⟨x, hx⟩ : ∃ x, g j = x := ⟨_, rfl⟩
        have HG := G.out j
        rw [hx] at HG IX
        clear hx
        rcases HG with ⟨rfl, e2⟩ | ⟨rfl, e2⟩
        · have SN : Hid (∀ w, Calls Try.prog 12 #[.string ⟨#[]⟩] w fun e w' => e = .returned (sv (f j)) ∧ Below w.heap.size w w') := by
            rw [e2]
            exact sector_any ⟨#[]⟩
          clear e2
          go_wp2_with fail
          refine Calls.mono (SN.out _) ?_
          rintro e w8 ⟨rfl, hb⟩
          have D8 : Hid _ := D.out.later hb
          clear D hb SN
          go_wp2_with fail
          refine Calls.mono (RD.out _ D8.out) ?_
          rintro e w9 ⟨rfl, rfl⟩
          have e3 : lay f [] j = f j := rfl
          rw [e3]
          clear e3 RD
          go_wp2
          go_roundw
          case rel => exact ⟨j + 1, by omega, by go_num, D8, G⟩
          case measure => simp [intOf]; omega
        · have z0 : (st (f j)).toList.isEmpty = false := by
            rw [ByteArray.toList_eq, st_data]
            cases q : f j with
            | nil =>
              rw [q] at e2
              cases e2
            | cons y l => rfl
          clear e2
          go_wp2_with fail
          refine Calls.mono (RD.out _ D.out) ?_
          rintro e w9 ⟨rfl, rfl⟩
          have e3 : lay f [] j = f j := rfl
          rw [e3]
          clear e3 RD
          go_wp2
          go_roundw
          case rel => exact ⟨j + 1, by omega, by go_num, D, G⟩
          case measure => simp [intOf]; omega
      · obtain rfl : j = 8 := by omega
        have FF : Hid (Below w.heap.size w wr) := D.out.below
        clear D G
        go_wp2
        go_ret
        exact ⟨rfl, FF.out⟩
end Go.Proofs.Ytpcgoimkflgcnaa
