/- The time goes on: Advance. -/
import Derived.Test.YthnkkkiobbnpmaaWhA
namespace Go.Proofs.Ythnkkkiobbnpmaa
open Go.RowKit Go.Proofs.Fd Go.Proofs.Wh
set_option maxRecDepth 20000

/-- What Advance leaves and tells. -/
def AdvP (w : World) (p : Nat) (F : Nat → Prop) (s : St) (ids : List Int) (x : Int) (e : Ending) (w' : World) : Prop :=
  ∃ F' va vn vc, e = .returned (.tuple #[.slice va vn vc, .int .i64 x]) ∧ WAt w' p F' s ∧ Nx w F F' ∧ Bf F w w' ∧ OwnsI w' (.slice va vn vc) ids ∧ ∀ g, (Value.slice va vn vc).ownBlock = some g → ¬ F' g ∧ w.heap.size ≤ g
theorem AdvP.no {w : World} {p : Nat} {F : Nat → Prop} {s : St} {x : Int} (h : WAt w p F s) : AdvP w p F s [] x (.returned (.tuple #[.slice none 0 0, .int .i64 x])) w :=
  ⟨F, none, 0, 0, rfl, h, Nx.refl _ _, Bf.refl _ _, World.ownsRow_nil _ _ _ _, fun g e => by cases e⟩
theorem keepE {wc w1 : World} {a b : Addr} {x y : Value} {r : Option Nat} (hg : wc.grownBy w1 r) (ha : some a.block ≠ r) (hb : some b.block ≠ r) (h : wc.cell? a = some x ∧ wc.cell? b = some y) : w1.cell? a = some x ∧ w1.cell? b = some y := ⟨hg.cell h.1 ha, hg.cell h.2 hb⟩
set_option maxHeartbeats 4000000 in
theorem adv_ok (p : Nat) (F : Nat → Prop) (s : St) (tt : Nat) (hm : s.many < 1099511627776) (g1 : s.now ≤ tt) (g2 : tt ≤ 1099511627776) (w : World) (H : Hid (WAt w p F s)) :
    Calls Try.prog 16 #[.pointer (some ⟨p, 0, none⟩), .int .i64 (tt : Int)] w fun e w' => AdvP w p F ⟨tt, s.many, rest tt s.l⟩ ((Wh.due tt s.l).map Tm.i) 0 e w' := by
  obtain ⟨ho, sv, sl, bm, D, rfl, h1, h2, hr⟩ := H.out
  have hnow : s.now ≤ 1099511627776 := ho.now
  have c0 := hr.c0
  have f0 := hr.fr
  have hpl := pl_small hnow g2
  have TK : Hid _ := take_any p s.now s.many tt sv sl bm D hnow g2 w hr (fun m hm => Nat.le_trans (flat_length h1 hm) ho.long)
  have FP : Hid ((flat sl (pl s.now tt + 1)).Perm (rch s tt)) := flat_perm h1 (pl s.now tt + 1) (by omega)
  have FL : Hid ((flat sl (pl s.now tt + 1)).length ≤ 4096) := Nat.le_trans (flat_length h1 (by omega)) ho.long
  have HL : Hid (∀ g, Foot p sv bm g → g < w.heap.size) := fun g hg => hr.lt hg
  have k1 : ¬ (tt : Int) < (s.now : Int) := by omega
  have k2 : ¬ (1099511627776 : Int) < (tt : Int) := by omega
  have HO : Hid (Ok s) := ho
  have HS : Hid (Sl s sl) := h1
  have HM : Hid (Mp D s.l) := h2
  clear hr ho h1 h2 H
  go_enter Try.func16, Try.ntmps16
  go_wp2_with fail
  refine Calls.mono TK.out ?_
  rintro e w1 ⟨va, vn, vc, rfl, T1'⟩
  have T1 : Hid (Tk w p s.now s.many sv sl bm D (pl s.now tt + 1) (.slice va vn vc) w1) := T1'
  clear T1' TK c0 f0
  have SO : Hid _ := sortR_any _ FL.out w1 va vn vc T1.out.own
  go_wp2_with fail
  refine Calls.mono SO.out ?_
  rintro e w2 ⟨rfl, r, p1, p2, p3, p4⟩
  have RR : Hid (r = rch s tt) := rch_of HO.out (p1.trans FP.out) p2
  have nF : ∀ g, (Value.slice va vn vc).ownBlock = some g → ¬ Foot p (cutV sv (pl s.now tt + 1)) bm g := fun g e c => by
    have h1 := T1.out.new g e
    have h2 := HL.out g (Tk.foot c)
    omega
  have R2 := (T1.out.raw.grown p4 nF)
  have R3 := R2.setNow tt
  have A0 : Hid (Ad w p (Foot p sv bm) s sl bm tt r (.slice va vn vc) 0 (.slice none 0 0) (w2.setCell ⟨p, 0, none⟩ (.int .i64 (tt : Int)))) := by
    refine ⟨cutV sv (pl s.now tt + 1), D, ?_, ?_, ?_, World.ownsRow_nil _ _ _ _, fun g e => ⟨nF g e, fun c => (by cases c)⟩, fun g e => (by cases e), fun g c => .inl (Tk.foot c), ?_⟩
    · rw [List.take_zero, plc_nil]
      exact R3.1
    · rw [List.take_zero, dl_nil]
      exact HM.out
    · exact ownsRow_same p3 (fun g e => Below.heap_setCell w2 ⟨p, 0, none⟩ _ g (fun c => nF g e (.inl c)))
    · have b1 : Bf (Foot p sv bm) w w2 := T1.out.bf.trans (F' := fun g => (Value.slice va vn vc).ownBlock = some g) (fun g e => .inr (T1.out.new g e)) (Bf.grown p4 (fun g e => .inl e))
      exact b1.trans (F' := Foot p (cutV sv (pl s.now tt + 1)) bm) (fun g c => .inl (Tk.foot c)) R3.2
  have c0 := R2.c0
  have f0 := R2.fr
  have RL : Hid (r.length ≤ 4096) := by
    have := p1.length_eq
    have := FL.out
    show r.length ≤ 4096
    omega
  have RN : Hid (OwnsT w2 (.slice va vn vc) r) := p3
  clear p1 p2 p4 nF R2 R3 SO FP FL T1 p3
  obtain ⟨n, hn⟩ : ∃ n, r.length = n := ⟨_, rfl⟩
  have hvn : vn = n := by
    rcases owns_tm RN.out with ⟨e, rfl⟩ | ⟨g, cap, e, -, -⟩
    · injection e with e1 e2 e3
      rw [e2, ← hn]
      rfl
    · injection e with e1 e2 e3
      rw [e2, hn]
  subst hvn
  have HN : Hid (r.length = vn) := hn
  have hvn4 : vn ≤ 4096 := by have := RL.out; omega
  clear hn RN RL
  go_wp2
  obtain ⟨W0, hW0⟩ : ∃ W0, w2.setCell ⟨p, 0, none⟩ (.int .i64 (tt : Int)) = W0 := ⟨_, rfl⟩
  rw [hW0] at A0 ⊢
  clear hW0 c0 f0 k1 k2 HL
  go_loopw [7, 31] (fun vi i wr => ∃ (k : Nat) (ia : Option Addr) (im ie : Nat), k ≤ vn ∧ i = .int .i64 (k : Int) ∧ vi = .slice ia im ie ∧ Hid (Ad w p (Foot p sv bm) s sl bm tt r (.slice va vn vc) k (.slice ia im ie) wr)) (fun vi i wr => vn - (intOf i).toNat)
  case atStart => exact ⟨0, none, 0, 0, by omega, rfl, rfl, A0.out⟩
  case round =>
    obtain ⟨k, ia, im, ie, hk, rfl, rfl, I⟩ := hrel
    clear A0
    by_cases hlt : k < vn
    · have hkr : k < r.length := by have := HN.out; omega
      have x1 : (k : Int) < (vn : Int) := by omega
      obtain ⟨g, rfl⟩ : ∃ g, va = some ⟨g, 0, none⟩ := by
        obtain ⟨sv1, D1, -, -, q3, -⟩ := I.out
        rcases owns_tm q3 with ⟨-, e⟩ | ⟨g, cap, e, -, -⟩
        · rw [e] at hkr
          exact absurd hkr (Nat.not_lt_zero _)
        · injection e with e1 e2 e3
          exact ⟨g, e1⟩
      have TR : TmAt wr g r := by
        obtain ⟨sv1, D1, -, -, q3, -⟩ := I.out
        exact q3.tm.1
      obtain ⟨a0, a1, a2⟩ := TR k hkr
      clear TR
      obtain ⟨t, ht⟩ : ∃ t, r[k] = t := ⟨_, rfl⟩
      rw [ht] at a0 a1 a2
      have A1 : Hid (Ad w p (Foot p sv bm) s sl bm tt r (.slice (some ⟨g, 0, none⟩) vn vc) k (.slice ia im ie) (wr.alloc (.cells #[.int .i64 (t.a : Int), .int .i64 (t.n : Int), .int .i64 t.i] 59))) := I.out.later ((Below.refl _ _).alloc (Nat.le_refl _) _)
      have HB : Hid (T1 (wr.alloc (.cells #[.int .i64 (t.a : Int), .int .i64 (t.n : Int), .int .i64 t.i] 59)) wr.heap.size t) := ⟨by simp [go_sem], by simp [go_sem], by simp [go_sem], fun o => by simp [go_sem]⟩
      have hta : t.a ≤ 1099511627776 := by
        have : r[k] ∈ rch s tt := by rw [← RR.out]; exact List.getElem_mem hkr
        rw [← ht]
        exact (HO.out.above _ (List.mem_filter.1 this).1).2
      by_cases hd : t.a ≤ tt
      · have x2 : ¬ (tt : Int) < (t.a : Int) := by omega
        obtain ⟨w5, d1, d2, d3, d4, d5⟩ := Ad.due (A1.out.later (Below.refl _ _).drew) hm HO.out RR.out hkr (by rw [ht]; exact hd)
        rw [ht] at d2 d5
        obtain ⟨b0, b1, b2, bf⟩ := HB.out
        have hBm : wr.heap.size ≠ bm := fun c => by
          obtain ⟨sv1, D1, q1, -⟩ := I.out
          have := q1.lt (.inr (.inl rfl))
          omega
        have HBM : Hid (wr.heap.size ≠ bm) := hBm
        have B5 : Hid (w5.cell? ⟨wr.heap.size, 2, none⟩ = some (.int .i64 t.i)) := d3.cell b2 (fun c => HBM.out (by injection c))
        have D5 : Hid _ := d5
        have D3 : Hid _ := d3
        have D4 : Hid (p ≠ bm) := d4
        clear hBm d5 d3 d4 A1 I ht
        go_wp2
        have c1 : (wr.alloc (.cells #[.int .i64 (t.a : Int), .int .i64 (t.n : Int), .int .i64 t.i] 59)).cell? ⟨p, 450, none⟩ = some (.map (some bm)) := d1
        obtain ⟨W1, hW1⟩ : ∃ W1, (wr.alloc (.cells #[.int .i64 (t.a : Int), .int .i64 (t.n : Int), .int .i64 t.i] 59)) = W1 := ⟨_, rfl⟩
        rw [hW1] at d1 d2 D3 b0 b1 b2 c1 ⊢
        clear hW1 HB bf b0 b2 d1 a0 a1 a2
        go_region_held3 (fun w' => w'.cell? ⟨p, 450, none⟩ = some (.map (some bm)) ∧ w'.cell? ⟨wr.heap.size, 1, none⟩ = some (.int .i64 (t.n : Int))) (first | exact ⟨c1, b1⟩ | exact keepE D3.out (fun e => D4.out (by injection e)) (fun e => HBM.out (by injection e)) (by assumption)) (first | (rw [if_pos (by kernel_rfl)]; refine wp_delete_run _ _ _ _ _ rfl _ _ rfl rfl _ _ d2 ?_))
        rename_i hH
        clear hH c1 b1 d2 D3 D4
        have b2 := B5.out
        obtain ⟨ja, jm, je, w', r1, J'⟩ := D5.out (w5.alloc (.cells #[.int .i64 t.i] 3)) ((Below.refl _ _).alloc (Nat.le_refl _) _) w5.heap.size (Nat.le_refl _) (by simp [go_sem])
        have J : Hid _ := J'
        clear J' D5 B5
        go_wp2_with (at_builtin; refine Go.Lib.wpList_append_run _ rfl _ _ _ _ rfl _ _ rfl rfl _ _ r1 ?_)
        go_roundw
        case rel => exact ⟨k + 1, ja, jm, je, by omega, by go_num, rfl, J.out⟩
        case measure => simp [intOf]; omega
      · have x2 : (tt : Int) < (t.a : Int) := by omega
        obtain ⟨sv1, D1, R1, NX⟩ := A1.out.late hkr (by rw [ht]; exact hd)
        rw [ht] at NX
        have PL : Hid _ := place_any p tt s.many sv1 _ bm D1 t g2 hta _ R1 (by
          refine Nat.le_trans (m := s.l.length) ?_ HO.out.long
          rw [RR.out]
          exact plc_length HS.out HO.out (pl_small g2 hta))
        have NX' : Hid _ := NX
        clear NX R1 A1 I ht
        obtain ⟨b0, b1, b2, bf⟩ := HB.out
        go_wp2_with fail
        refine Calls.mono PL.out ?_
        rintro e w4 ⟨rfl, sv4, z1, z2, z3⟩
        have J : Hid _ := NX'.out sv4 w4 z1 z2 z3
        clear z1 z2 z3 NX' PL HB b0 b1 b2 bf a0 a1 a2
        go_wp2
        go_roundw
        case rel => exact ⟨k + 1, ia, im, ie, by omega, by go_num, rfl, J.out⟩
        case measure => simp [intOf]; omega
    · obtain rfl : k = vn := by omega
      obtain ⟨sv1, D1, q1, q2, q3, q4, q5, q6, q7, q8⟩ := I.out
      have hfull : r.take k = r := List.take_of_length_le (by have := HN.out; omega)
      rw [hfull] at q1 q2 q4
      rw [RR.out] at q1 q2 q4
      have FIN : Hid (AdvP w p (Foot p sv bm) ⟨tt, s.many, rest tt s.l⟩ ((Wh.due tt s.l).map Tm.i) 0 (.returned (.tuple #[.slice ia im ie, .int .i64 0])) wr) := by
        refine ⟨Foot p sv1 bm, ia, im, ie, rfl, ⟨?_, sv1, _, bm, D1, rfl, HS.out.adv HO.out, ?_, q1⟩, q7, q8, ?_, q6⟩
        · have := HO.out.adv (tt : Int)
          have e0 : advE s (tt : Int) = 0 := by
            unfold advE
            rw [if_neg (by omega), if_neg (show ¬ (maxT : Int) < (tt : Int) by unfold maxT; omega)]
          unfold advS at this
          rw [if_pos e0] at this
          exact this
        · rw [dl_all HO.out] at q2
          exact q2
        · rw [due_rch HO.out] at q4
          exact q4
      clear q1 q2 q3 q4 q5 q6 q7 q8 hfull I
      go_wp2
      go_ret2
      exact FIN.out
/-- Advance, whatever time is asked for. -/
theorem adv_any (p : Nat) (F : Nat → Prop) (s : St) (tt : Int) (hm : s.many < 1099511627776) (w : World) (H : WAt w p F s) :
    Calls Try.prog 16 #[.pointer (some ⟨p, 0, none⟩), .int .i64 tt] w fun e w' => AdvP w p F (advS s tt) (advV s tt) (advE s tt) e w' := by
  have c0 : w.cell? ⟨p, 0, none⟩ = some (.int .i64 (s.now : Int)) := by
    obtain ⟨ho, sv, sl, bm, D, rfl, h1, h2, hr⟩ := H
    exact hr.c0
  by_cases g1 : tt < (s.now : Int)
  · have e0 : advE s tt = 140 := by unfold advE; rw [if_pos g1]
    have e1 : advV s tt = [] := by unfold advV; rw [e0]; rfl
    have e2 : advS s tt = s := by unfold advS; rw [e0]; rfl
    rw [e0, e1, e2]
    have HH : Hid _ := AdvP.no (x := 140) H
    clear e0 e1 e2 H
    go_enter Try.func16, Try.ntmps16
    go_wp2
    go_ret2
    exact HH.out
  · by_cases g2 : (1099511627776 : Int) < tt
    · have e0 : advE s tt = 1 := by unfold advE; rw [if_neg g1, if_pos (show (maxT : Int) < tt from g2)]
      have e1 : advV s tt = [] := by unfold advV; rw [e0]; rfl
      have e2 : advS s tt = s := by unfold advS; rw [e0]; rfl
      rw [e0, e1, e2]
      have HH : Hid _ := AdvP.no (x := 1) H
      clear e0 e1 e2 H
      go_enter Try.func16, Try.ntmps16
      go_wp2
      go_ret2
      exact HH.out
    · have e0 : advE s tt = 0 := by unfold advE; rw [if_neg g1, if_neg (show ¬ (maxT : Int) < tt from g2)]
      obtain ⟨n, rfl⟩ : ∃ n : Nat, tt = (n : Int) := ⟨tt.toNat, by omega⟩
      have e1 : advV s (n : Int) = (Wh.due n s.l).map Tm.i := by unfold advV; rw [if_pos e0]
      have e2 : advS s (n : Int) = ⟨n, s.many, rest n s.l⟩ := by unfold advS; rw [if_pos e0, Int.toNat_natCast]
      rw [e0, e1, e2]
      exact adv_ok p F s n hm (by omega) (by omega) w H
end Go.Proofs.Ythnkkkiobbnpmaa
