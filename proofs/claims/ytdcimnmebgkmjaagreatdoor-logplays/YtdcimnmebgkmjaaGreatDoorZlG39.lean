/- Parts: LpE, LpF. -/
import Derived.Test.YtdcimnmebgkmjaaGreatDoorZlG38
namespace Go.Proofs.YtdcimnmebgkmjaaGreatDoor
open Go.RowKit Go.Proofs.Fd Go.Proofs.Dk Go.Proofs.Lg
set_option maxRecDepth 20000
theorem Gx.logs {w w0 : World} {U0 : Nat → Prop} {wr : World} {B : Nat} {cs : List Value} {p d : Nat} {s : St} {x : Lo} {pl kl : Option Addr} (h : Gx w w0 U0 wr B cs p d s (some x) s (some x) pl kl) : ∃ q1 q2 a2 c2, pl = some ⟨q1, 0, none⟩ ∧ kl = some ⟨q2, 0, none⟩ ∧ x.ts.length ≤ 512
    ∧ wr.cell? ⟨q2, 2, none⟩ = some (.int .i64 (x.g : Int)) ∧ wr.cell? ⟨q2, 3, none⟩ = some (.slice a2 x.ts.length c2) ∧ TxAt wr a2 x.ts
    ∧ (∀ W, Below wr.heap.size wr W → Calls Tryz.prog 24 #[.pointer pl] W fun e w1 => ∃ a c, e = .returned (.slice a x.ts.length c) ∧ w1.ownsRow W.heap.size 9 1 (.slice a x.ts.length c) x.ts.length (scs x.ts) ∧ Below W.heap.size W w1)
    ∧ (∀ W, Below wr.heap.size wr W → Calls Tryz.prog 27 #[.pointer pl] W fun e w1 => e = .returned (.int .i64 ((s.n / 2 - x.tk : Nat) : Int)) ∧ Below W.heap.size W w1)
    ∧ (∀ W, Below wr.heap.size wr W → Calls Tryz.prog 25 #[.pointer pl] W fun e w1 => e = .returned (.int .i64 (x.g : Int)) ∧ w1 = W)
    ∧ (∀ W, Below wr.heap.size wr W → Calls Tryz.prog 28 #[.pointer kl] W fun e w1 => e = .returned (.int .i64 ((s.n / 2 - x.tk : Nat) : Int)) ∧ Below W.heap.size W w1) := by
  obtain ⟨Ft, Gt, k, nn, ff⟩ := h
  obtain ⟨q1, F, v, rfl, z, -⟩ := k.pp
  obtain ⟨q2, G, u, rfl, r, -⟩ := k.rp
  obtain ⟨a2, c2, rfl, t2, -⟩ := owns_tx rfl r.rd.rf.row
  have hl := z.tlen
  have hn2 := z.n2
  refine ⟨q1, q2, a2, c2, rfl, rfl, hl, r.rd.rf.bk.c 2 _ rfl, r.rd.rf.bk.c 3 _ rfl, t2, fun W hb => ?_, fun W hb => ?_, fun W hb => ?_, fun W hb => ?_⟩
  · refine (lrecords_any q1 p _ _ _ v x.ts _ _ [] W (by omega) (fun t ht => (z.ok t ht).2) (z.later hb).hd_.hf).mono ?_
    rintro e w1 ⟨u1, rfl, o1, b1⟩
    obtain ⟨a, c, rfl, -, -⟩ := owns_tx rfl o1
    exact ⟨a, c, rfl, o1, b1⟩
  · exact lroom_any q1 p _ _ _ v x.ts _ _ [] W z.tk (by omega) (z.later hb).hd_.hf
  · exact lgeneration_any q1 p _ _ _ v x.ts _ _ [] W (z.later hb).hd_.hf
  · exact rroom_any W d G s q2 _ x (r.later hb)
set_option maxHeartbeats 4000000 in
theorem lpsame_any (w w0 : World) (U0 : Nat → Prop) (wr : World) (B p d : Nat) (s : St) (o : Option Lo) (pl kl : Option Addr) (hl : s.l.length ≤ 1000000) (hn : s.n ≤ 1024) (h : Hid (Gx w w0 U0 wr B (lbc p d pl kl) p d s o s o pl kl)) :
    Calls Tryz.prog 9 #[.pointer (some ⟨B, 0, none⟩)] wr fun e w' => e = .returned (.bool true) ∧ Below wr.heap.size wr w' := by
  have RD : Hid (∀ (j : Int) (W : World), Below wr.heap.size wr W → ∃ (T : ByteArray) (z : Int), Hid (Calls Tryz.prog 18 #[.pointer (some ⟨p, 0, none⟩), .int .i64 j] W (fun e w' => e = .returned (.tuple #[.string T, .int .i64 z]) ∧ w' = W)) ∧ Hid (Calls Tryz.prog 19 #[.pointer (some ⟨d, 0, none⟩), .int .i64 j] W (fun e w' => e = .returned (.tuple #[.string T, .int .i64 z]) ∧ w' = W))) := fun j W hb =>
    ⟨st (rdV s j), rch s j, greadP_any w w0 U0 W B _ p d s s o o pl kl j (h.out.later hb), greadR_any w w0 U0 W B _ p d s s o o pl kl j hl (h.out.later hb)⟩
  obtain ⟨z0, hz0⟩ : ∃ z : Int, (s.n : Int) = z := ⟨_, rfl⟩
  have LK : Hid (∀ W, Below wr.heap.size wr W → W.cell? ⟨B, 0, none⟩ = some (.pointer (some ⟨p, 0, none⟩)) ∧ W.cell? ⟨B, 1, none⟩ = some (.pointer (some ⟨d, 0, none⟩)) ∧ W.cell? ⟨d, 4, none⟩ = some (.int .i64 z0)) := fun W hb => by
    have k := h.out.later hb
    exact ⟨k.blk.c 0 _ rfl, k.blk.c 1 _ rfl, by rw [← hz0]; exact k.down.2⟩
  have N1 : 0 ≤ z0 ∧ z0 ≤ 1024 := by omega
  obtain ⟨N1, N2⟩ := N1
  have b0 := h.out.blk.c 0 _ rfl
  have b1 := h.out.blk.c 1 _ rfl
  have b2 := h.out.blk.c 2 _ rfl
  have b3 := h.out.blk.c 3 _ rfl
  have d3 := h.out.down.1
  match o, h with
  | none, h =>
    obtain ⟨i1, i2⟩ := h.out.nils
    obtain rfl := i1.1 rfl
    obtain rfl := i2.1 rfl
    have BB : Hid (Below wr.heap.size wr wr) := Below.refl _ _
    clear h i1 i2 hl hn hz0
    go_enter Tryz.func9, Tryz.ntmps9
    go_wp2_with fail
    go_loopw [4] (fun i wx => ∃ j : Nat, (j : Int) ≤ z0 ∧ i = .int .i64 (j : Int) ∧ Hid (Below wr.heap.size wr wx)) (fun i wx => 1024 - (intOf i).toNat)
    case atStart => exact ⟨0, by omega, rfl, BB.out⟩
    case round =>
      obtain ⟨j, hj, rfl, I⟩ := hrel
      obtain ⟨b0, b1, d4⟩ := LK.out _ I.out
      by_cases hjn : (j : Int) < z0
      · have hj60 : j < 1024 := by omega
        obtain ⟨T, z, R1, R2⟩ := RD.out (j : Int) _ I.out
        clear BB
        go_wp2_with fail
        refine Calls.mono R1.out ?_
        rintro e w11 ⟨rfl, hw11⟩
        subst hw11
        go_wp2_with fail
        refine Calls.mono R2.out ?_
        rintro e w12 ⟨rfl, hw12⟩
        subst hw12
        clear R1 R2
        go_wp2
        go_roundw
        case rel => exact ⟨j + 1, by omega, by go_num, I.out⟩
        case measure => simp [intOf]; omega
      · clear BB
        go_wp2
        go_ret
        exact ⟨rfl, I.out⟩
  | some x, h =>
    obtain ⟨q1, q2, a2, c2, rfl, rfl, hts, e2, e3, t2, RC, RM, GE, RR⟩ := h.out.logs
    cases hdn : s.down with
    | true =>
      rw [hdn] at d3
      have BB : Hid (Below wr.heap.size wr wr) := Below.refl _ _
      clear h hl hn hz0 e2 e3 t2 RC RM GE RR hts hdn
      go_enter Tryz.func9, Tryz.ntmps9
      go_wp2_with fail
      go_loopw [4] (fun i wx => ∃ j : Nat, (j : Int) ≤ z0 ∧ i = .int .i64 (j : Int) ∧ Hid (Below wr.heap.size wr wx)) (fun i wx => 1024 - (intOf i).toNat)
      case atStart => exact ⟨0, by omega, rfl, BB.out⟩
      case round =>
        obtain ⟨j, hj, rfl, I⟩ := hrel
        obtain ⟨b0, b1, d4⟩ := LK.out _ I.out
        by_cases hjn : (j : Int) < z0
        · have hj60 : j < 1024 := by omega
          obtain ⟨T, z, R1, R2⟩ := RD.out (j : Int) _ I.out
          clear BB
          go_wp2_with fail
          refine Calls.mono R1.out ?_
          rintro e w11 ⟨rfl, hw11⟩
          subst hw11
          go_wp2_with fail
          refine Calls.mono R2.out ?_
          rintro e w12 ⟨rfl, hw12⟩
          subst hw12
          clear R1 R2
          go_wp2
          go_roundw
          case rel => exact ⟨j + 1, by omega, by go_num, I.out⟩
          case measure => simp [intOf]; omega
        · clear BB
          go_wp2
          go_ret
          exact ⟨rfl, I.out⟩
    | false =>
      rw [hdn] at d3
      have SM : Hid (∀ W a c, Below wr.heap.size wr W → TxAt W a x.ts → Calls Tryz.prog 15 #[.slice a x.ts.length c, .slice a2 x.ts.length c2] W fun e w' => e = .returned (.bool true) ∧ Below W.heap.size W w') := fun W a c hb t1 => lsame_any a a2 _ c c2 x.ts rfl (by omega) W t1 (t2.later hb)
      have RC1 : Hid _ := RC wr (Below.refl _ _)
      have RM1 : Hid _ := RM
      have GE1 : Hid _ := GE
      have RR1 : Hid _ := RR
      have TX : Hid (∀ (W : World) (base : Nat) (v : Value), W.ownsRow base 9 1 v x.ts.length (scs x.ts) → ∃ a c, v = .slice a x.ts.length c ∧ TxAt W a x.ts) := fun W base v ow => by
        obtain ⟨a, c, e, t, -⟩ := owns_tx rfl ow
        exact ⟨a, c, e, t⟩
      have SP : Hid (∀ (W : World) (base : Nat) (a : Option Addr) (c : Nat), W.ownsRow base 9 1 (.slice a x.ts.length c) x.ts.length (scs x.ts) → _) := fun W base a c ow => lspoil_any a x.ts.length c base x.ts W ow
      obtain ⟨l, hll⟩ : ∃ l, x.ts = l := ⟨_, rfl⟩
      rw [hll] at SM RC1 TX SP e3
      obtain ⟨N, hN⟩ : ∃ N, l.length = N := ⟨_, rfl⟩
      rw [hN] at SM RC1 TX SP e3
      obtain ⟨gi, hgi⟩ : ∃ g : Int, (x.g : Int) = g := ⟨_, rfl⟩
      rw [hgi] at GE1 e2
      obtain ⟨rm, hrm⟩ : ∃ g : Int, ((s.n / 2 - x.tk : Nat) : Int) = g := ⟨_, rfl⟩
      rw [hrm] at RM1 RR1
      have KS : Hid (∀ W, Below wr.heap.size wr W → W.cell? ⟨B, 2, none⟩ = some (.pointer (some ⟨q1, 0, none⟩)) ∧ W.cell? ⟨B, 3, none⟩ = some (.pointer (some ⟨q2, 0, none⟩)) ∧ W.cell? ⟨q2, 2, none⟩ = some (.int .i64 gi) ∧ W.cell? ⟨q2, 3, none⟩ = some (.slice a2 N c2)) := fun W hb => ⟨cell_later hb b2, cell_later hb b3, cell_later hb e2, cell_later hb e3⟩
      clear h hl hn hz0 t2 RC RM GE RR hts hdn hll hN hgi hrm
      go_enter Tryz.func9, Tryz.ntmps9
      go_wp2_with fail
      refine Calls.mono RC1.out ?_
      rintro e w1 ⟨a1, c1, rfl, ow1, hb1⟩
      have J1 : Hid (w1.ownsRow wr.heap.size 9 1 (.slice a1 N c1) N (scs l) ∧ Below wr.heap.size wr w1) := ⟨ow1, hb1⟩
      have T1 : Hid (TxAt w1.drew a1 l ∧ Below wr.heap.size wr w1.drew) := by
        obtain ⟨a, c, e, t⟩ := TX.out _ _ _ ow1
        injection e with y1 y2 y3
        rw [y1]
        exact ⟨t.later (Below.refl _ _).drew, hb1.drew⟩
      have s0 := KS.out _ T1.out.2
      clear RC1 ow1 hb1 TX b2 b3 e2 e3
      go_wp2_with fail
      have S2 : Hid _ := SM.out w1.drew a1 c1 T1.out.2 T1.out.1
      go_region_held3 (fun w1 => w1.cell? ⟨B, 2, none⟩ = some (.pointer (some ⟨q1, 0, none⟩)) ∧ w1.cell? ⟨B, 3, none⟩ = some (.pointer (some ⟨q2, 0, none⟩)) ∧ w1.cell? ⟨q2, 2, none⟩ = some (.int .i64 gi) ∧ w1.cell? ⟨q2, 3, none⟩ = some (.slice a2 N c2)) (first | exact s0 | assumption | exact KS.out _ (chain T1.out.2 hb2) | exact KS.out _ (chain (chain T1.out.2 hb2) hb3) | exact KS.out _ (chain (chain (chain T1.out.2 hb2) hb3) hb4)) (first | (go_at_call 15; refine Calls.mono S2.out ?_; rintro e w2 ⟨rfl, hb2⟩) | (go_at_call 27; refine Calls.mono (RM1.out _ (chain T1.out.2 hb2)) ?_; rintro e w3 ⟨rfl, hb3⟩) | (go_at_call 28; refine Calls.mono (RR1.out _ (chain (chain T1.out.2 hb2) hb3)) ?_; rintro e w4 ⟨rfl, hb4⟩) | (go_at_call 25; refine Calls.mono (GE1.out _ (chain (chain (chain T1.out.2 hb2) hb3) hb4)) ?_; rintro e w5 ⟨rfl, rfl⟩))
      have B5 : Below w1.heap.size w1 w5 := ((((Below.refl _ _).drew : Below w1.heap.size w1 w1.drew).trans hb2).trans (hb3.mono hb2.size)).trans (hb4.mono (Nat.le_trans hb2.size hb3.size))
      have S5 : Hid _ := SP.out w5 _ a1 c1 (owns_laterS J1.out.1 B5)
      have B6 : Hid (Below wr.heap.size wr w5 ∧ ∀ g, (Value.slice a1 N c1).ownBlock = some g → wr.heap.size ≤ g) := ⟨chain J1.out.2 B5, fun g e => (J1.out.1.lt g e).1⟩
      clear S2 RM1 RR1 GE1 SM SP T1 J1 B5 hb2 hb3 hb4 s0 KS
      go_wp2_with fail
      refine Calls.mono S5.out ?_
      rintro e w6 ⟨rfl, bf6⟩
      have BB : Hid (Below wr.heap.size wr w6) := B6.out.1.trans (bf6.below B6.out.2 B6.out.1.size)
      clear bf6 S5 B6
      go_wp2_with fail
      go_loopw [4] (fun i wx => ∃ j : Nat, (j : Int) ≤ z0 ∧ i = .int .i64 (j : Int) ∧ Hid (Below wr.heap.size wr wx)) (fun i wx => 1024 - (intOf i).toNat)
      case atStart => exact ⟨0, by omega, rfl, BB.out⟩
      case round =>
        obtain ⟨j, hj, rfl, I⟩ := hrel
        obtain ⟨b0, b1, d4⟩ := LK.out _ I.out
        by_cases hjn : (j : Int) < z0
        · have hj60 : j < 1024 := by omega
          obtain ⟨T, z, R1, R2⟩ := RD.out (j : Int) _ I.out
          clear BB
          go_wp2_with fail
          refine Calls.mono R1.out ?_
          rintro e w11 ⟨rfl, hw11⟩
          subst hw11
          go_wp2_with fail
          refine Calls.mono R2.out ?_
          rintro e w12 ⟨rfl, hw12⟩
          subst hw12
          clear R1 R2
          go_wp2
          go_roundw
          case rel => exact ⟨j + 1, by omega, by go_num, I.out⟩
          case measure => simp [intOf]; omega
        · clear BB
          go_wp2
          go_ret
          exact ⟨rfl, I.out⟩
def Lq (w : World) (B p d n k : Nat) (W : World) : Prop := ∃ s o pl kl w0 U, U B ∧ Gx w w0 U W B (lbc p d pl kl) p d s o s o pl kl ∧ s.n = n ∧ s.l.length ≤ 600 * k
theorem Lq.later {w : World} {B p d n k : Nat} {W W1 : World} (h : Lq w B p d n k W) (hb : Below W.heap.size W W1) : Lq w B p d n k W1 := by
  obtain ⟨s, o, pl, kl, w0, U, h1, h2, h3⟩ := h
  exact ⟨s, o, pl, kl, w0, U, h1, h2.later hb, h3⟩
theorem Lq.below {w : World} {B p d n k : Nat} {W : World} (h : Lq w B p d n k W) : Below w.heap.size w W := by
  obtain ⟨s, o, pl, kl, w0, U, h1, h2, h3⟩ := h
  exact h2.below
theorem act_cells5 (wr : World) (ak an : Int) (X : ByteArray) (ta : Option Addr) (tn tc : Nat) (pa : Option Addr) (pn pc : Nat) (t : TypeId) :
    (wr.alloc (.cells #[.int .i64 ak, .int .i64 an, .string X, .slice ta tn tc, .slice pa pn pc] t)).cell? ⟨wr.heap.size, 0, none⟩ = some (.int .i64 ak) ∧ (wr.alloc (.cells #[.int .i64 ak, .int .i64 an, .string X, .slice ta tn tc, .slice pa pn pc] t)).cell? ⟨wr.heap.size, 1, none⟩ = some (.int .i64 an) ∧ (wr.alloc (.cells #[.int .i64 ak, .int .i64 an, .string X, .slice ta tn tc, .slice pa pn pc] t)).cell? ⟨wr.heap.size, 2, none⟩ = some (.string X) ∧ (wr.alloc (.cells #[.int .i64 ak, .int .i64 an, .string X, .slice ta tn tc, .slice pa pn pc] t)).cell? ⟨wr.heap.size, 3, none⟩ = some (.slice ta tn tc) ∧ (wr.alloc (.cells #[.int .i64 ak, .int .i64 an, .string X, .slice ta tn tc, .slice pa pn pc] t)).cell? ⟨wr.heap.size, 4, none⟩ = some (.slice pa pn pc) :=
  ⟨by simp [go_sem], by simp [go_sem], by simp [go_sem], by simp [go_sem], by simp [go_sem]⟩
theorem Gx.f9 {w w0 : World} {U0 : Nat → Prop} {wr : World} {B A p d : Nat} {sP sR : St} {oP oR : Option Lo} {pl kl pl' kl' : Option Addr} {ak an : Int} {X T P : Value} (h : Gx w w0 U0 wr B (lbc p d pl kl) p d sP oP sR oR pl' kl') (hU : ¬ U0 A)
    (h0 : w0.cell? ⟨A, 0, none⟩ = some (.int .i64 ak)) (h1 : w0.cell? ⟨A, 1, none⟩ = some (.int .i64 an)) (h2 : w0.cell? ⟨A, 2, none⟩ = some X) (h3 : w0.cell? ⟨A, 3, none⟩ = some T) (h4 : w0.cell? ⟨A, 4, none⟩ = some P) : F9 B A p d pl kl ak an X T P wr :=
  ⟨h.blk.c 0 _ rfl, h.blk.c 1 _ rfl, h.blk.c 2 _ rfl, h.blk.c 3 _ rfl, h.bf.cell h0 hU, h.bf.cell h1 hU, h.bf.cell h2 hU, h.bf.cell h3 hU, h.bf.cell h4 hU⟩
theorem BytesAt.same {w w' : World} {b : Nat} {l : List UInt8} (h : BytesAt w b l) (hs : w'.heap[b]? = w.heap[b]?) : BytesAt w' b l := fun j hj => ⟨(World.cell?_of_block (a := ⟨b, j, none⟩) hs).trans (h j hj).1, (World.frozen?_of_block (a := ⟨b, j, none⟩) hs).trans (h j hj).2⟩
theorem ints_lt {w : World} {a : Option Addr} {l : List Int} (h : IntAt w a l) : ∀ x, a = some x → 0 < l.length → x.block < w.heap.size := fun x hx h0 => by
  obtain ⟨b, o, e, hc⟩ := h 0 h0
  rw [e] at hx
  injection hx with hx
  subst hx
  exact World.block_lt_of_cell? _ _ hc
theorem ints_later {w w1 : World} {a : Option Addr} {l : List Int} (h : IntAt w a l) (hb : Below w.heap.size w w1) : IntAt w1 a l := fun i hi => by
  obtain ⟨b, o, e, hc⟩ := h i hi
  exact ⟨b, o, e, cell_later hb hc⟩
set_option maxHeartbeats 2000000 in
theorem lpstep_any (w : World) (hk : Kh w) (B p d n k : Nat) (hn : n ≤ 60) (hk30 : k ≤ 30) (ak an : Int) (X : ByteArray) (ta : Option Addr) (tn tc : Nat) (us : List Bs) (ht : TxAt w ta us) (htn : us.length = tn) (htb : tn * 16 ≤ 140737488355328) (pa : Option Addr) (pn pc : Nat) (l : List Int) (hp : IntAt w pa l) (hpn : l.length = pn) (wr : World) (b : Lq w B p d n k wr) :
    Calls Tryz.prog 10 #[.pointer (some ⟨B, 0, none⟩), .agg #[.int .i64 ak, .int .i64 an, .string X, .slice ta tn tc, .slice pa pn pc]] wr fun e w' => e = .returned (.bool true) ∧ Lq w B p d n (k + 1) w' := by
  obtain ⟨s, o, pl, kl, w0, U0, hU0, gx, hsn, hsl⟩ := b
  obtain ⟨m, hm6, AM⟩ := lamong_is ak 6 (by decide) (by decide)
  obtain ⟨x0, x1, x2, x3, x4⟩ := act_cells5 wr ak an X ta tn tc pa pn pc 40
  have nb1 := nb wr (.cells #[.int .i64 ak, .int .i64 an, .string X, .slice ta tn tc, .slice pa pn pc] 40)
  have hsz : wr.heap.size < (wr.alloc (.cells #[.int .i64 ak, .int .i64 an, .string X, .slice ta tn tc, .slice pa pn pc] 40)).heap.size := by simp
  obtain ⟨W1, hW1⟩ : ∃ W, wr.alloc (.cells #[.int .i64 ak, .int .i64 an, .string X, .slice ta tn tc, .slice pa pn pc] 40) = W := ⟨_, rfl⟩
  rw [hW1] at x0 x1 x2 x3 x4 nb1 hsz
  obtain ⟨U, hUB, hUl, g1⟩ := gx.start nb1
  have hUA : ¬ U wr.heap.size := fun c => Nat.lt_irrefl _ (hUl _ c).1
  have bw := gx.below
  have bw1 : Below w.heap.size w W1 := chain bw nb1
  have pk : ∀ x, pa = some x → 0 < l.length → x.block < W1.heap.size ∧ ¬ U x.block := fun x e h0 => by
    have := ints_lt hp x e h0
    have := bw1.size
    exact ⟨by omega, fun c => by have := (hUl _ c).2; omega⟩
  have f9 : ∀ {W : World} {sP sR : St} {oP oR : Option Lo} {pl' kl' : Option Addr}, Gx w W1 U W B (lbc p d pl kl) p d sP oP sR oR pl' kl' → F9 B wr.heap.size p d pl kl ak an (.string X) (.slice ta tn tc) (.slice pa pn pc) W := fun z => z.f9 hUA x0 x1 x2 x3 x4
  have ok := gx.oks.1
  obtain ⟨ips, ipk⟩ := gx.nils
  have dn := g1.down.1
  have opened : ∀ {s1 : St} {w0 : World} {U : Nat → Prop} {W : World}, Ok s1 → s1.n = n → U B → s1.l.length ≤ 600 * k + 2 → (∃ pl kl, Gx w w0 U W B (lbc p d pl kl) p d (opn s1).1.2 (oLo (opn s1)) (opn s1).1.2 (oLo (opn s1)) pl kl) → Lq w B p d n (k + 1) W := fun ok1 h1 hU h3 ⟨pl, kl, z⟩ => by
    have kp := kp_opn ok1
    have := kp.l
    exact ⟨_, _, pl, kl, _, _, hU, z, kp.n.trans h1, by omega⟩
  have IDLE : m < 3 → (pl = none ∨ s.down = true) → Calls Tryz.prog 10 #[.pointer (some ⟨B, 0, none⟩), .agg #[.int .i64 ak, .int .i64 an, .string X, .slice ta tn tc, .slice pa pn pc]] wr fun e w' => e = .returned (.bool true) ∧ Lq w B p d n (k + 1) w' := fun h3 hi =>
    lp_idle B wr.heap.size p d pl kl ak an X ta tn tc pa pn pc (Lq w B p d n (k + 1)) wr rfl m h3 s.down (ips.symm.trans ipk) hi AM (by rw [hW1]; exact ⟨dn, ⟨s, o, pl, kl, _, U, hUB, g1, hsn, by omega⟩, f9 g1⟩)
  by_cases h3 : m < 3
  · match o, ips, ipk, g1, gx with
    | none, ips, ipk, g1, gx => exact IDLE h3 (.inl (ips.1 rfl))
    | some x, ips, ipk, g1, gx =>
      by_cases hd : s.down = true
      · exact IDLE h3 (.inr hd)
      · have hd' : s.down = false := by simpa using hd
        rw [hd'] at dn
        obtain ⟨q1, rfl⟩ : ∃ a, pl = some a := by
          cases pl with
          | none => exact absurd (ips.2 rfl) (by simp)
          | some a => exact ⟨a, rfl⟩
        obtain ⟨q2, rfl⟩ : ∃ a, kl = some a := by
          cases kl with
          | none => exact absurd (ipk.2 rfl) (by simp)
          | some a => exact ⟨a, rfl⟩
        obtain ⟨lq, lF, lv, -, lz⟩ := g1.n2P
        have lh := lz.h1
        have ln := lz.n4
        obtain rfl | rfl | rfl : m = 0 ∨ m = 1 ∨ m = 2 := by omega
        · have kp := kp_app (s := s) lh X.data.toList
          have kpl := kp.l
          refine lp_app B wr.heap.size p d q1 q2 ak an X ta tn tc pa pn pc (Lq w B p d n (k + 1)) (fun W => Gx w W1 U W B (lbc p d (some q1) (some q2)) p d s (some x) s (some x) (some q1) (some q2)) (fun W => Gx w W1 U W B (lbc p d (some q1) (some q2)) p d (app s x X.data.toList).1.2 (some (app s x X.data.toList).2) s (some x) (some q1) (some q2)) wr rfl (app s x X.data.toList).1.1 AM (fun W z => Gx.later z (Below.refl _ _).drew) (by rw [hW1]; exact ⟨dn, g1, f9 g1⟩) ?_ ?_
          · intro W z
            exact (flappP_any w W1 U W B _ p d s s x (some x) (some q1) (some q2) X (by omega) hk z).mono fun _ _ ⟨y1, y2⟩ => ⟨y1, f9 y2, y2⟩
          · intro W z
            exact (flappR_any w W1 U W B _ p d _ s x _ (some q1) (some q2) X (by omega) z).mono fun _ _ ⟨y1, y2⟩ => ⟨y1, f9 y2, _, _, _, _, _, U, hUB, y2, kp.n.trans hsn, by omega⟩
        · have kp := kp_sync s
          have kpl := kp.l
          refine lp_sync B wr.heap.size p d q1 q2 ak an X ta tn tc pa pn pc (Lq w B p d n (k + 1)) (fun W => Gx w W1 U W B (lbc p d (some q1) (some q2)) p d s (some x) s (some x) (some q1) (some q2)) (fun W => Gx w W1 U W B (lbc p d (some q1) (some q2)) p d (syS s) (some x) s (some x) (some q1) (some q2)) wr rfl (syE s) AM (fun W z => Gx.later z (Below.refl _ _).drew) (by rw [hW1]; exact ⟨dn, g1, f9 g1⟩) ?_ ?_
          · intro W z
            exact (flsyncP_any w W1 U W B _ p d s s x (some x) (some q1) (some q2) (by omega) z).mono fun _ _ ⟨y1, y2⟩ => ⟨y1, f9 y2, y2⟩
          · intro W z
            exact (flsyncR_any w W1 U W B _ p d _ s x _ (some q1) (some q2) (by omega) z).mono fun _ _ ⟨y1, y2⟩ => ⟨y1, f9 y2, _, _, _, _, _, U, hUB, y2, kp.n.trans hsn, by omega⟩
        · have kp := kp_cmp (s := s) lh ln us
          have kpl := kp.l
          obtain ⟨oa, oc, W2, AP, tx2, b2, new2⟩ := gcopy_tx W1 ta tn tc us htn htb (ht.later bw1)
          have nb2 : Below wr.heap.size wr W2 := chain nb1 b2
          obtain ⟨U2, hUB2, hUl2, g2⟩ := gx.start nb2
          have hUA2 : ¬ U2 wr.heap.size := fun c => Nat.lt_irrefl _ (hUl2 _ c).1
          have f2 : ∀ {W : World} {sP sR : St} {oP oR : Option Lo} {pl' kl' : Option Addr}, Gx w W2 U2 W B (lbc p d (some q1) (some q2)) p d sP oP sR oR pl' kl' → F9 B wr.heap.size p d (some q1) (some q2) ak an (.string X) (.slice ta tn tc) (.slice pa pn pc) W := fun z => z.f9 hUA2 (cell_later b2 x0) (cell_later b2 x1) (cell_later b2 x2) (cell_later b2 x3) (cell_later b2 x4)
          have tk1 : ∀ x, oa = some x → 0 < us.length → x.block < W2.heap.size ∧ ¬ U2 x.block := fun x e h0 => by
            refine ⟨tx2.lt x e h0, fun c => ?_⟩
            have := new2 x e
            have := (hUl2 _ c).1
            omega
          have bw2 := chain bw nb2
          have tk2 : ∀ x, ta = some x → 0 < us.length → x.block < W2.heap.size ∧ ¬ U2 x.block := fun x e h0 => by
            have := ht.lt x e h0
            have := bw2.size
            exact ⟨by omega, fun c => by have := (hUl2 _ c).2; omega⟩
          have tb : tn ≤ 10000000000000 := by omega
          refine lp_comp B wr.heap.size p d q1 q2 ak an X ta tn tc pa pn pc (Lq w B p d n (k + 1)) (fun W => Gx w W2 U2 W B (lbc p d (some q1) (some q2)) p d s (some x) s (some x) (some q1) (some q2)) (fun W => Gx w W2 U2 W B (lbc p d (some q1) (some q2)) p d (cmp s x us).1.2 (some (cmp s x us).2) s (some x) (some q1) (some q2)) (fun W => Gx w W2 U2 W B (lbc p d (some q1) (some q2)) p d (cmp s x us).1.2 (some (cmp s x us).2) (cmp s x us).1.2 (some (cmp s x us).2) (some q1) (some q2)) wr rfl (cmp s x us).1.1 oa oc W1 W2 hW1 AM AP dn (f9 g1) (cell_alloc x3) (g2.later (Below.refl _ _).drew) (fun W z => f2 z) (fun W z => f2 z) (fun W z => f2 z) ?_ ?_ ?_
          · intro W z
            exact (gcompP_any w W2 U2 W B _ p d s s x (some x) (some q1) (some q2) oa tn oc us htn tb (by omega) hk tx2 tk1 z).mono fun _ _ ⟨y1, y2⟩ => ⟨y1, y2⟩
          · intro W z
            exact (gcompR_any w W2 U2 W B _ p d _ s x _ (some q1) (some q2) ta tn tc us htn tb hd' (by omega) (ht.later bw2) tk2 z).mono fun _ _ ⟨y1, y2⟩ => ⟨y1, y2⟩
          · intro W z
            have t1 : TxAt W oa us := fun i hi => by
              obtain ⟨y, o, e, cc⟩ := tx2 i hi
              exact ⟨y, o, e, z.bf.cell cc (tk1 _ e (by omega)).2⟩
            have t2 : TxAt W ta us := ht.later z.below
            exact (lsame_any oa ta tn oc tc us htn tb W t1 t2).mono fun _ _ ⟨y1, y2⟩ => ⟨y1, y2, _, _, _, _, _, U2, hUB2, z.later y2, kp.n.trans hsn, by omega⟩
  · obtain rfl | rfl | rfl : m = 3 ∨ m = 4 ∨ m = 5 := by omega
    · have kp := kp_fuse s an
      have kpl := kp.l
      refine lp_fuse B wr.heap.size p d pl kl ak an X ta tn tc pa pn pc (Lq w B p d n (k + 1)) (fun W => Gx w W1 U W B (lbc p d pl kl) p d s o s o pl kl) (fun W => Gx w W1 U W B (lbc p d pl kl) p d (fuS s an) o s o pl kl) wr rfl (fuE s an) AM (fun W z => Gx.later z (Below.refl _ _).drew) (by rw [hW1]; exact ⟨g1, f9 g1⟩) ?_ ?_
      · intro W z
        exact (gfuseP_any w W1 U W B _ p d s o s o pl kl an z).mono fun _ _ ⟨y1, y2⟩ => ⟨y1, f9 y2, y2⟩
      · intro W z
        exact (gfuseR_any w W1 U W B _ p d _ o s o pl kl an z).mono fun _ _ ⟨y1, y2⟩ => ⟨y1, f9 y2, _, _, _, _, _, U, hUB, y2, kp.n.trans hsn, by omega⟩
    · refine lp_crash B wr.heap.size p d pl kl ak an X ta tn tc pa pn pc (Lq w B p d n (k + 1)) (fun W => Gx w W1 U W B (lbc p d pl kl) p d s none s none none none) wr rfl AM (by rw [hW1]; exact ⟨g1.drop, f9 g1⟩) ?_
      intro W z
      refine (lpcrash_any w W1 U W B p d s pl kl pa pn pc l hpn (ints_later hp bw1) pk (by omega) (by omega) hUB hk z).mono fun _ _ ⟨y1, y2⟩ => ⟨y1, ?_⟩
      exact opened (ok.cr l) hsn hUB (Nat.zero_le _) y2
    · obtain ⟨W2, W3, MK, CP, by3, b2, b3, s3⟩ := sct_made X W1
      have nb3 : Below wr.heap.size wr W3 := chain nb1 b3
      obtain ⟨U3, hUB3, hUl3, g3⟩ := gx.start nb3
      have hUA3 : ¬ U3 wr.heap.size := fun c => Nat.lt_irrefl _ (hUl3 _ c).1
      have hUS3 : ¬ U3 W1.heap.size := fun c => by have := (hUl3 _ c).1; omega
      have f3 : ∀ {W : World} {sP sR : St} {oP oR : Option Lo} {pl' kl' : Option Addr}, Gx w W3 U3 W B (lbc p d pl kl) p d sP oP sR oR pl' kl' → F9 B wr.heap.size p d pl kl ak an (.string X) (.slice ta tn tc) (.slice pa pn pc) W ∧ (convert 68 9 (.slice (some ⟨W1.heap.size, 0, none⟩) 64 64)).run Tryz.prog W = .ok (.string (st (sct X))) W := fun z => ⟨z.f9 hUA3 (cell_later b3 x0) (cell_later b3 x1) (cell_later b3 x2) (cell_later b3 x3) (cell_later b3 x4), (by3.same (z.bf.block _ s3 hUS3)).string (sct_len X)⟩
      have sl : (sct X).length = 64 := sct_len X
      have wn : (wrS s an (sct X)).n = s.n := wrS_n s an (sct X)
      have wl : (wrS s an (sct X)).l.length ≤ s.l.length + 1 := wrS_len s an (sct X)
      refine lp_foreign B wr.heap.size W1.heap.size p d pl kl ak an X ta tn tc pa pn pc (Lq w B p d n (k + 1)) (fun W => Gx w W3 U3 W B (lbc p d pl kl) p d s none s none none none) (fun W => Gx w W3 U3 W B (lbc p d pl kl) p d (wrS s an (sct X)) none s none none none) (fun W => Gx w W3 U3 W B (lbc p d pl kl) p d (wrS s an (sct X)) none (wrS s an (sct X)) none none none) wr rfl (wrE s an (sct X)) _ (st (sct X)) W1 W2 W3 hW1 AM MK CP x0 (cell_later b2 x2) (g3.drop.later (Below.refl _ _).drew) (fun W z => f3 z) (fun W z => f3 z) (fun W z => f3 z) ?_ ?_ ?_
      · intro W z
        exact (gwriteP_any w W3 U3 W B _ p d s s none none an (st (sct X)) (by omega) z).mono fun _ _ ⟨y1, y2⟩ => ⟨y1, y2⟩
      · intro W z
        exact (gwriteR_any w W3 U3 W B _ p d _ s none none an (st (sct X)) (by omega) z).mono fun _ _ ⟨y1, y2⟩ => ⟨y1, y2⟩
      · intro W z
        have nb4 := nb W (.cells #[.int .i64 64, .int .i64 64, .int .i64 64, .int .i64 64] 3)
        obtain ⟨U4, hUB4, hUl4, g4⟩ := z.start nb4
        have hi4 : IntAt (W.alloc (.cells #[.int .i64 64, .int .i64 64, .int .i64 64, .int .i64 64] 3)) (some ⟨W.heap.size, 0, none⟩) [64, 64, 64, 64] := fun i hi => by
          refine ⟨W.heap.size, 0, rfl, ?_⟩
          have h4 : i < 4 := hi
          obtain rfl | rfl | rfl | rfl : i = 0 ∨ i = 1 ∨ i = 2 ∨ i = 3 := by omega
          all_goals simp [go_sem]
        refine (lpcrash_any w _ U4 _ B p d (wrS s an (sct X)) pl kl (some ⟨W.heap.size, 0, none⟩) 4 4 [64, 64, 64, 64] rfl hi4 (fun y e _ => ?_) (by omega) (by omega) hUB4 hk g4).mono fun _ _ ⟨y1, y2⟩ => ⟨y1, ?_⟩
        · injection e with e
          subst e
          exact ⟨by simp, fun c => Nat.lt_irrefl _ (hUl4 _ c).1⟩
        · exact opened (z.oks.1.cr _) (wn.trans hsn) hUB4 (Nat.zero_le _) y2
end Go.Proofs.YtdcimnmebgkmjaaGreatDoor
namespace Go.Proofs.YtdcimnmebgkmjaaGreatDoor
open Go.RowKit Go.Proofs.Fd Go.Proofs.Dk Go.Proofs.Lg
set_option maxRecDepth 20000
structure Lac where
  k : Int
  n : Int
  t : ByteArray
  ta : Option Addr
  tn : Nat
  tc : Nat
  ts : List Bs
  pa : Option Addr
  pn : Nat
  pc : Nat
  ps : List Int
structure Lac.L (w : World) (y : Lac) : Prop where
  tx : TxAt w y.ta y.ts
  tlen : y.ts.length = y.tn
  tb : y.tn * 16 ≤ 140737488355328
  at_ : IntAt w y.pa y.ps
  len : y.ps.length = y.pn
def LacAt (w : World) (a : Option Addr) (L : List Lac) : Prop := ∀ i (hi : i < L.length), ∃ b o, a = some ⟨b, o, none⟩ ∧ w.cell? ⟨b, o + i * 5, none⟩ = some (.int .i64 L[i].k) ∧ w.cell? ⟨b, o + i * 5 + 1, none⟩ = some (.int .i64 L[i].n) ∧ w.cell? ⟨b, o + i * 5 + 2, none⟩ = some (.string L[i].t) ∧ w.cell? ⟨b, o + i * 5 + 3, none⟩ = some (.slice L[i].ta L[i].tn L[i].tc) ∧ w.cell? ⟨b, o + i * 5 + 4, none⟩ = some (.slice L[i].pa L[i].pn L[i].pc)
theorem LacAt.later {W w1 : World} {a : Option Addr} {L : List Lac} (h : LacAt W a L) (hb : Below W.heap.size W w1) : LacAt w1 a L := fun i hi => by
  obtain ⟨b, o, e, h0, h1, h2, h3, h4⟩ := h i hi
  exact ⟨b, o, e, cell_later hb h0, cell_later hb h1, cell_later hb h2, cell_later hb h3, cell_later hb h4⟩
set_option maxHeartbeats 1000000 in
theorem lplays_no (n0 : Int) (h : n0 < 1 ∨ 1024 < n0) (a : Option Addr) (len cap : Nat) (w : World) (hk : Hid (Kh w)) :
    Calls Tryz.prog 3 #[.int .i64 n0, .slice a len cap] w fun e w' => e = .returned (.bool true) ∧ Below w.heap.size w w' := by
  have N1 : Hid _ := new_no n0 h w
  have N2 : Hid _ := rnew_no n0 h w
  have WK : Hid _ := lworks_any w hk
  clear h hk
  go_enter Tryz.func3, Tryz.ntmps3
  go_wp2_with fail
  refine Calls.mono N1.out ?_
  rintro e w1 ⟨rfl, hw⟩
  subst hw
  clear N1
  go_wp2_with fail
  refine Calls.mono N2.out ?_
  rintro e w2 ⟨rfl, hw⟩
  subst hw
  clear N2
  go_wp2_with fail
  refine Calls.mono WK.out ?_
  rintro e w3 ⟨rfl, hb⟩
  have FF : Hid _ := hb
  clear hb WK
  go_wp2
  go_ret
  exact ⟨rfl, FF.out⟩
set_option maxHeartbeats 1000000 in
theorem lplays_great (n : Nat) (h1 : 60 < n) (h2 : n ≤ 1024) (a : Option Addr) (len cap : Nat) (w : World) (hk : Hid (Kh w)) :
    Calls Tryz.prog 3 #[.int .i64 (n : Int), .slice a len cap] w fun e w' => e = .returned (.bool true) ∧ Below w.heap.size w w' := by
  have NW : Hid _ := newL w w n (by omega) h2 (Below.refl _ _)
  have RW : Hid (∀ w, _) := rnew_any n (by omega) h2
  have WK : Hid (∀ W, Below w.heap.size w W → _) := fun W hb => lworks_any W (hk.out.later hb)
  have g1 : (60 : Int) < (n : Int) := by omega
  obtain ⟨z, hz⟩ : ∃ z : Int, (n : Int) = z := ⟨_, rfl⟩
  rw [hz] at NW RW g1 ⊢
  clear h1 h2 hk hz
  go_enter Tryz.func3, Tryz.ntmps3
  go_wp2_with fail
  refine Calls.mono NW.out ?_
  rintro e w1 ⟨p, F, rfl, -, -, hb1⟩
  have B1 : Hid _ := hb1
  clear NW hb1
  go_wp2_with fail
  refine Calls.mono (RW.out _) ?_
  rintro e w2 ⟨d, G, rfl, -, -, hb2⟩
  have B2 : Hid (Below w.heap.size w w2) := chain B1.out hb2
  clear RW hb2 B1
  go_wp2_with fail
  refine Calls.mono (WK.out _ B2.out) ?_
  rintro e w3 ⟨rfl, hb⟩
  have FF : Hid (Below w.heap.size w w3) := chain B2.out hb
  clear hb WK B2
  go_wp2
  go_ret
  exact ⟨rfl, FF.out⟩
set_option maxHeartbeats 8000000 in
theorem LogPlays_walk (n0 : Int) (a : Option Addr) (L : List Lac) (len cap : Nat) (hn : L.length = len) (w : World) (hk : Hid (Kh w)) (h : Hid (LacAt w a L)) (hL : Hid (∀ x ∈ L, x.L w)) :
    Calls Tryz.prog 3 #[.int .i64 n0, .slice a len cap] w fun e w' => e = .returned (.bool true) ∧ Below w.heap.size w w' := by
  by_cases hn0 : n0 < 1 ∨ 1024 < n0
  · exact lplays_no n0 hn0 a len cap w hk
  obtain ⟨n, rfl⟩ : ∃ n : Nat, n0 = (n : Int) := ⟨n0.toNat, by omega⟩
  have h1 : 1 ≤ n := by omega
  have h2 : n ≤ 1024 := by omega
  by_cases h60 : 60 < n
  · exact lplays_great n h60 h2 a len cap w hk
  have HN : Hid (L.length = len) := hn
  have H60 : Hid (n ≤ 60) := Nat.le_of_not_lt h60
  have NW : Hid _ := newL w w n h1 h2 (Below.refl _ _)
  have RW : Hid (∀ w, _) := rnew_any n h1 h2
  have WK : Hid (∀ W, Below w.heap.size w W → _) := fun W hb => lworks_any W (hk.out.later hb)
  have ST : Hid (∀ (W : World) (B p d k : Nat) (x : Lac), k ≤ 30 → x.L w → Lq w B p d n k W → Calls Tryz.prog 10 #[.pointer (some ⟨B, 0, none⟩), .agg #[.int .i64 x.k, .int .i64 x.n, .string x.t, .slice x.ta x.tn x.tc, .slice x.pa x.pn x.pc]] W fun e w' => e = .returned (.bool true) ∧ Lq w B p d n (k + 1) w') := fun W B p d k x hk30 hx b => lpstep_any w hk.out B p d n k H60.out hk30 x.k x.n x.t x.ta x.tn x.tc x.ts hx.tx hx.tlen hx.tb x.pa x.pn x.pc x.ps hx.at_ hx.len W b
  have SA : Hid (∀ (W : World) (B p d k : Nat), k ≤ 31 → Lq w B p d n k W → Calls Tryz.prog 9 #[.pointer (some ⟨B, 0, none⟩)] W fun e w' => e = .returned (.bool true) ∧ Lq w B p d n k w') := fun W B p d k hk31 b => by
    obtain ⟨s, o, pl, kl, w0, U, hU, gx, e1, e2⟩ := b
    have := H60.out
    exact (lpsame_any w w0 U W B p d s o pl kl (by omega) (by omega) gx).mono fun _ _ ⟨y1, y2⟩ => ⟨y1, s, o, pl, kl, w0, U, hU, gx.later y2, e1, e2⟩
  have OP : Hid (∀ (W : World) (p d : Nat) (F G : Nat → Prop), Dl w W p F (St.init n) → DAt W d G (St.init n) → (∀ z, F z → ¬ G z) → (∀ z, G z → w.heap.size ≤ z) → Calls Tryz.prog 8 #[.pointer (some ⟨W.heap.size, 0, none⟩)] (W.alloc (.cells #[.pointer (some ⟨p, 0, none⟩), .pointer (some ⟨d, 0, none⟩), .pointer none, .pointer none] 35)) fun e w' => e = .returned (.bool true) ∧ Lq w W.heap.size p d n 1 w') := fun W p d F G k1 k2 k3 k4 => by
    have nb1 := nb W (.cells #[.pointer (some ⟨p, 0, none⟩), .pointer (some ⟨d, 0, none⟩), .pointer none, .pointer none] 35)
    have bk : Blk (W.alloc (.cells #[.pointer (some ⟨p, 0, none⟩), .pointer (some ⟨d, 0, none⟩), .pointer none, .pointer none] 35)) W.heap.size (lbc p d none none) := Blk.new W _ _ (by simp)
    have := H60.out
    have gx : Gx w _ (UU F G W.heap.size) (W.alloc (.cells #[.pointer (some ⟨p, 0, none⟩), .pointer (some ⟨d, 0, none⟩), .pointer none, .pointer none] 35)) W.heap.size (lbc p d none none) p d (St.init n) none (St.init n) none none none := ⟨F, G, ⟨bk, ⟨rfl, k1.later nb1⟩, ⟨rfl, k2.later nb1⟩, k3, fun c => Nat.lt_irrefl _ (k1.at_.lt c), fun c => Nat.lt_irrefl _ (k2.lt c), k1.new, k4, k1.below.size, Nat.le_trans k1.below.size nb1.size⟩, Nx.refl _ _, Bf.refl _ _⟩
    refine (lpopen_any w _ _ _ W.heap.size p d (St.init n) none none (by show n ≤ 1024; omega) (by show 0 + 5000 ≤ _; decide) (.inr (.inr rfl)) hk gx).mono ?_
    rintro e w' ⟨e1, pl, kl, z⟩
    have kp := kp_opn gx.oks.1
    have kl2 := kp.l
    exact ⟨e1, _, _, pl, kl, _, _, .inr (.inr rfl), z, kp.n, by
      have e0 : (St.init n).l.length = 0 := rfl
      have e1 : (St.init n).n = n := rfl
      omega⟩
  have g60 : ¬ (60 : Int) < (n : Int) := by omega
  obtain ⟨z0, hz0⟩ : ∃ z : Int, (n : Int) = z := ⟨_, rfl⟩
  rw [hz0] at NW RW g60 ⊢
  clear hn hn0 h1 h2 h60 hk hz0
  go_enter Tryz.func3, Tryz.ntmps3
  go_wp2_with fail
  refine Calls.mono NW.out ?_
  rintro e w1 ⟨p, F, rfl, I1, -, -⟩
  have J1 : Hid _ := I1
  clear NW I1
  go_wp2_with fail
  refine Calls.mono (RW.out _) ?_
  rintro e w2 ⟨d, G, rfl, k1, k2, k3⟩
  have J2 : Hid (Dl w w2 p F (St.init n) ∧ DAt w2 d G (St.init n) ∧ (∀ z, F z → ¬ G z) ∧ ∀ z, G z → w.heap.size ≤ z) := ⟨J1.out.later k3, k1, fun g hg c => by
    have := J1.out.at_.lt hg
    have := k2 g c
    omega, fun g hg => Nat.le_trans J1.out.below.size (k2 g hg)⟩
  clear J1 k1 k2 k3 RW
  go_wp2_with fail
  refine Calls.mono (WK.out _ J2.out.1.below) ?_
  rintro e w3 ⟨rfl, hb3⟩
  have O3 : Hid _ := OP.out w3 p d F G (J2.out.1.later hb3) (J2.out.2.1.later hb3) J2.out.2.2.1 J2.out.2.2.2
  clear J2 hb3 WK OP
  obtain ⟨B, hB⟩ : ∃ B, w3.heap.size = B := ⟨_, rfl⟩
  obtain ⟨W4, hW4⟩ : ∃ W, w3.alloc (.cells #[.pointer (some ⟨p, 0, none⟩), .pointer (some ⟨d, 0, none⟩), .pointer none, .pointer none] 35) = W := ⟨_, rfl⟩
  rw [hB, hW4] at O3
  go_wp2_with fail
  refine Calls.mono O3.out ?_
  rintro e w5 ⟨rfl, hp5⟩
  have S5 : Hid _ := SA.out _ _ _ _ _ (by decide) hp5
  clear O3 hp5 hB hW4
  go_wp2_with fail
  refine Calls.mono S5.out ?_
  rintro e w6 ⟨rfl, hp6⟩
  have J6 : Hid _ := hp6
  clear S5 hp6
  go_wp2_with fail
  go_loopw [10] (fun i wr => ∃ k : Nat, k ≤ len ∧ k ≤ 30 ∧ i = .int .i64 (k : Int) ∧ Hid (Lq w B p d n (k + 1) wr)) (fun i wr => 30 - (intOf i).toNat)
  case atStart => exact ⟨0, Nat.zero_le _, Nat.zero_le _, rfl, J6.out⟩
  case round =>
    obtain ⟨k, hk, hk2, rfl, I⟩ := hrel
    clear J6
    by_cases hlt : k < len
    · by_cases h30 : k < 30
      · have g1 : (k : Int) < (len : Int) := by omega
        have g2 : (k : Int) < 30 := by omega
        have hkl : k < L.length := by have := HN.out; omega
        have BW := I.out.below
        obtain ⟨b, o, rfl, c0, c1, c2, c3, c4⟩ := (h.out.later BW) k hkl
        have HR := hL.out L[k] (List.getElem_mem hkl)
        obtain ⟨x, hx⟩ : ∃ x, L[k] = x := ⟨_, rfl⟩
        rw [hx] at c0 c1 c2 c3 c4 HR
        have S1 : Hid _ := ST.out wr B p d (k + 1) x (by omega) HR I.out
        obtain ⟨xk, xn, xt, ta, tn, tc, ts, pa, pn, pc, ps⟩ := x
        simp only at c0 c1 c2 c3 c4 S1
        have SB : Hid (∀ W, Lq w B p d n (k + 1 + 1) W → _) := fun W z => SA.out W B p d (k + 1 + 1) (by omega) z
        clear hx HR I BW
        go_wp2_with fail
        refine Calls.mono S1.out ?_
        rintro e w7 ⟨rfl, hp7⟩
        have J7 : Hid _ := SB.out w7 hp7
        clear S1 SB hp7 c0 c1 c2 c3 c4
        go_wp2_with fail
        refine Calls.mono J7.out ?_
        rintro e w8 ⟨rfl, hp8⟩
        have J8 : Hid _ := hp8
        clear J7 hp8
        go_wp2
        go_roundw
        case rel => exact ⟨k + 1, by omega, by omega, by go_num, J8.out⟩
        case measure => simp [intOf]; omega
      · obtain rfl : k = 30 := by omega
        have g1 : ((30 : Nat) : Int) < (len : Int) := by omega
        have FF : Hid (Below w.heap.size w wr) := I.out.below
        clear I
        go_wp2
        go_ret
        exact ⟨rfl, FF.out⟩
    · obtain rfl : k = len := by omega
      have FF : Hid (Below w.heap.size w wr) := I.out.below
      clear I
      go_wp2
      go_ret
      exact ⟨rfl, FF.out⟩
end Go.Proofs.YtdcimnmebgkmjaaGreatDoor
