/- WheelPlays. -/
import Derived.Test.YthnkkkiobbnpmaaWhPa
import Derived.Deep.CutBlock
namespace Go.Proofs.Ythnkkkiobbnpmaa
open Go.RowKit Go.Proofs.Fd Go.Proofs.Wh
set_option maxRecDepth 20000

structure Ac where
  k : Int
  a : Int
  i : Int
  f : Bool
def ActAt (w : World) (a : Option Addr) (L : List Ac) : Prop := ∀ i (hi : i < L.length), ∃ b o, a = some ⟨b, o, none⟩ ∧ w.cell? ⟨b, o + i * 4, none⟩ = some (.int .i64 L[i].k) ∧ w.cell? ⟨b, o + i * 4 + 1, none⟩ = some (.int .i64 L[i].a) ∧ w.cell? ⟨b, o + i * 4 + 2, none⟩ = some (.int .i64 L[i].i) ∧ w.cell? ⟨b, o + i * 4 + 3, none⟩ = some (.bool L[i].f)
theorem ActAt.later {W w1 : World} {a : Option Addr} {L : List Ac} (h : ActAt W a L) (hb : Below W.heap.size W w1) : ActAt w1 a L := fun i hi => by
  obtain ⟨b, o, e, h0, h1, h2, h3⟩ := h i hi
  exact ⟨b, o, e, cell_later hb h0, cell_later hb h1, cell_later hb h2, cell_later hb h3⟩
theorem Bo.start {w w1 : World} {p : Nat} {F : Nat → Prop} (h : Wl w w1 p F St.init) : Bo w (w1.alloc (.cells #[.slice none 0 0, .int .i64 0, .int .i64 0] 28)) p w1.heap.size F (.slice none 0 0) St.init St.init :=
  ⟨h.later ((Below.refl _ _).alloc (Nat.le_refl _) _), ⟨by simp [go_sem], by simp [go_sem, St.init], by simp [go_sem, St.init], fun o => by simp [go_sem], World.ownsRow_nil _ _ _ _, fun c => by cases c⟩, fun c => by have := h.at_.lt c; omega, fun g e => (by cases e), h.below.size, fun g e => (by cases e)⟩
/-- .. and an act's box beside them. -/
structure Bx (w wr : World) (p d : Nat) (F : Nat → Prop) (v : Value) (s t : St) (B : Nat) (x : Int) : Prop where
  bo : Bo w wr p d F v s t
  m1 : ¬ F B
  m2 : B ≠ d
  m3 : v.ownBlock ≠ some B
  c2 : wr.cell? ⟨B, 2, none⟩ = some (.int .i64 x)
theorem Bx.one {w wr w' : World} {p d : Nat} {F F' : Nat → Prop} {v : Value} {s s' t : St} {B : Nat} {x : Int} (h : Bx w wr p d F v s t B x) (h1 : Wl w w' p F' s') (h2 : Nx wr F F') (h3 : Bf F wr w') : Bx w w' p d F' v s' t B x :=
  ⟨h.bo.one h1 h2 h3, fun c => by
    rcases h2 B c with e | e
    · exact h.m1 e
    · have := World.block_lt_of_cell? _ _ h.c2
      simp only at this
      omega, h.m2, h.m3, h3.cell h.c2 h.m1⟩
theorem Bx.two {w wr w' : World} {p d : Nat} {F : Nat → Prop} {v : Value} {s t t' : St} {B : Nat} {x : Int} (h : Bx w wr p d F v s t B x) (k : DSt wr d v t' w') : ∃ u, Bx w w' p d F u s t' B x := by
  obtain ⟨u, k1, k2, k3⟩ := k
  have hB := World.block_lt_of_cell? _ _ h.c2
  simp only at hB
  obtain ⟨u', b⟩ := h.bo.two ⟨u, k1, k2, k3⟩
  have hB2 : Below w.heap.size w w' := h.bo.wl.below.trans (k3.below (fun g e => by rw [e]; exact h.bo.n1) h.bo.wl.below.size)
  refine ⟨u, ⟨b.wl, k1, h.bo.a1, fun g hg c => ?_, h.bo.n1, fun g hg => ?_⟩, h.m1, h.m2, fun c => ?_, k3.cell h.c2 h.m2⟩
  · rcases k2 g hg with e | e
    · exact h.bo.a2 g e c
    · have := h.bo.wl.at_.lt c
      omega
  · rcases k2 g hg with e | e
    · exact h.bo.n2 g e
    · have := h.bo.wl.below.size
      omega
  · rcases k2 B c with e | e
    · exact h.m3 e
    · omega
theorem Bx.later {w wr w' : World} {p d : Nat} {F : Nat → Prop} {v : Value} {s t : St} {B : Nat} {x : Int} (h : Bx w wr p d F v s t B x) (hb : Below wr.heap.size wr w') : Bx w w' p d F v s t B x := ⟨h.bo.later hb, h.m1, h.m2, h.m3, cell_later hb h.c2⟩
theorem c2_of {w wr : World} {p d : Nat} {F : Nat → Prop} {v : Value} {s t : St} {B : Nat} {x : Int} (h : Hid (Bx w wr p d F v s t B x)) : wr.cell? ⟨B, 2, none⟩ = some (.int .i64 x) := h.out.c2
theorem put_many (s : St) (y i : Int) : (putS s y i).many ≤ s.many + 1 := by
  unfold putS
  split <;> simp
theorem adv_many (s : St) (y : Int) : (advS s y).many = s.many := by
  unfold advS
  split <;> rfl
theorem keep9 {W w1 w2 : World} {B d : Nat} {x0 x1 x2 x3 x4 : Value} (h : w1.cell? ⟨B, 0, none⟩ = some x0 ∧ w1.cell? ⟨B, 1, none⟩ = some x1 ∧ w1.cell? ⟨B, 2, none⟩ = some x2 ∧ w1.cell? ⟨B, 3, none⟩ = some x3 ∧ w1.cell? ⟨d, 1, none⟩ = some x4 ∧ Below W.heap.size W w1) (hb : Below w1.heap.size w1 w2) :
    w2.cell? ⟨B, 0, none⟩ = some x0 ∧ w2.cell? ⟨B, 1, none⟩ = some x1 ∧ w2.cell? ⟨B, 2, none⟩ = some x2 ∧ w2.cell? ⟨B, 3, none⟩ = some x3 ∧ w2.cell? ⟨d, 1, none⟩ = some x4 ∧ Below W.heap.size W w2 :=
  ⟨cell_later hb h.1, cell_later hb h.2.1, cell_later hb h.2.2.1, cell_later hb h.2.2.2.1, cell_later hb h.2.2.2.2.1, chain h.2.2.2.2.2 hb⟩
set_option maxHeartbeats 4000000 in
theorem WheelPlays_walk (a : Option Addr) (L : List Ac) (len cap : Nat) (hn : L.length = len) (w : World) (h : Hid (ActAt w a L)) (hr : Hid (∀ x ∈ L, -9223372036854775808 ≤ x.i ∧ x.i < 9223372036854775808)) :
    Calls Try.prog 3 #[.slice a len cap] w fun e w' => e = .returned (.bool true) ∧ Below w.heap.size w w' := by
  have HN : Hid (L.length = len) := hn
  have NW : Hid _ := newL w w (Below.refl _ _)
  have WK : Hid (∀ w, _) := works_any
  clear hn
  go_enter Try.func3, Try.ntmps3
  go_wp2_with fail
  refine Calls.mono NW.out ?_
  rintro e w1 ⟨p, F, rfl, I1, -, -⟩
  have J1 : Hid _ := Bo.start I1
  clear NW I1
  go_wp2_with fail
  obtain ⟨d, hd⟩ : ∃ d, w1.heap.size = d := ⟨_, rfl⟩
  rw [hd] at J1 ⊢
  obtain ⟨w2, hw2⟩ : ∃ w2, w1.alloc (.cells #[.slice none 0 0, .int .i64 0, .int .i64 0] 28) = w2 := ⟨_, rfl⟩
  rw [hw2] at J1 ⊢
  clear hd hw2
  refine Calls.mono (WK.out _) ?_
  rintro e w3 ⟨rfl, hb3⟩
  have J2 : Hid _ := J1.out.later hb3
  clear J1 hb3 WK
  go_wp2_with fail
  go_loopw [5] (fun i wr => ∃ (k : Nat) (F : Nat → Prop) (v : Value) (s : St), k ≤ len ∧ k ≤ 200 ∧ i = .int .i64 (k : Int) ∧ Hid (Bo w wr p d F v s s ∧ s.many ≤ k)) (fun i wr => 200 - (intOf i).toNat)
  case atStart => exact ⟨0, F, _, St.init, Nat.zero_le _, Nat.zero_le _, rfl, J2.out, Nat.le_refl _⟩
  case round =>
    obtain ⟨k, F, v, s, hk, hk2, rfl, I⟩ := hrel
    clear J2
    by_cases hlt : k < len
    · by_cases h200 : k < 200
      · have g1 : (k : Int) < (len : Int) := by omega
        have g2 : (k : Int) < 200 := by omega
        have hkl : k < L.length := by have := HN.out; omega
        obtain ⟨b, o, rfl, c0, c1, c2, c3⟩ := (h.out.later I.out.1.wl.below) k hkl
        have HR := hr.out L[k] (List.getElem_mem hkl)
        obtain ⟨x, hx⟩ : ∃ x, L[k] = x := ⟨_, rfl⟩
        rw [hx] at c0 c1 c2 c3 HR
        have HR' : Hid _ := HR
        obtain ⟨xk, xa, xi, xf⟩ := x
        simp only at c0 c1 c2 c3 HR'
        clear hx HR
        have J1 : Hid (Bx w (wr.alloc (.cells #[.int .i64 xk, .int .i64 xa, .int .i64 xi, .bool xf] 31)) p d F v s s wr.heap.size xi) := ⟨I.out.1.later ((Below.refl _ _).alloc (Nat.le_refl _) _), fun c => Nat.lt_irrefl _ (I.out.1.wl.at_.lt c), fun c => by have := I.out.1.da.lt; omega, fun c => by have := (I.out.1.da.row.lt _ c).2; omega, by simp [go_sem]⟩
        have HM : Hid (s.many ≤ k) := I.out.2
        obtain ⟨y, TI'⟩ := time_is xk xa xi xf (s.now : Int)
        have TI : Hid _ := TI'
        obtain ⟨m, hm3, AM'⟩ := among_is xk 3 (by decide) (by decide)
        have AM : Hid _ := AM'
        clear TI' AM' I
        go_wp2_with fail
        obtain ⟨B, hB⟩ : ∃ B, wr.heap.size = B := ⟨_, rfl⟩
        have b0 : (wr.alloc (.cells #[.int .i64 xk, .int .i64 xa, .int .i64 xi, .bool xf] 31)).cell? ⟨B, 0, none⟩ = some (.int .i64 xk) := by rw [← hB]; simp [go_sem]
        have b1 : (wr.alloc (.cells #[.int .i64 xk, .int .i64 xa, .int .i64 xi, .bool xf] 31)).cell? ⟨B, 1, none⟩ = some (.int .i64 xa) := by rw [← hB]; simp [go_sem]
        have b2 : (wr.alloc (.cells #[.int .i64 xk, .int .i64 xa, .int .i64 xi, .bool xf] 31)).cell? ⟨B, 2, none⟩ = some (.int .i64 xi) := by rw [← hB]; simp [go_sem]
        have b3 : (wr.alloc (.cells #[.int .i64 xk, .int .i64 xa, .int .i64 xi, .bool xf] 31)).cell? ⟨B, 3, none⟩ = some (.bool xf) := by rw [← hB]; simp [go_sem]
        rw [hB] at J1 ⊢
        obtain ⟨W, hW⟩ : ∃ W, wr.alloc (.cells #[.int .i64 xk, .int .i64 xa, .int .i64 xi, .bool xf] 31) = W := ⟨_, rfl⟩
        rw [hW] at J1 b0 b1 b2 b3 ⊢
        have d1 := J1.out.bo.da.c1
        clear hW hB c0 c1 c2 c3
        go_region_held3 (fun w' => w'.cell? ⟨B, 0, none⟩ = some (.int .i64 xk) ∧ w'.cell? ⟨B, 1, none⟩ = some (.int .i64 xa) ∧ w'.cell? ⟨B, 2, none⟩ = some (.int .i64 xi) ∧ w'.cell? ⟨B, 3, none⟩ = some (.bool xf) ∧ w'.cell? ⟨d, 1, none⟩ = some (.int .i64 (s.now : Int)) ∧ Below W.heap.size W w') (first | exact ⟨b0, b1, b2, b3, d1, (Below.refl _ _).drew⟩ | assumption | exact keep9 (by assumption) (by assumption)) (first | (go_at_call 10; refine Calls.mono (TI.out _) ?_; rintro e w9 ⟨rfl, hb9⟩))
        have J9 : Hid (Bx w w9 p d F v s s B xi) := J1.out.later (chain (Below.refl _ _).drew hb9)
        have c9 := cell_later (chain (Below.refl _ _).drew hb9) b0
        clear J1 b0 b1 b2 b3 d1 hb9 TI
        go_upto_block 2 with (go_at_call 11; refine Calls.mono (AM.out _) ?_; rintro e w10 ⟨rfl, rfl⟩)
        go_cut [53] (fun _ wx => ∃ (F : Nat → Prop) (v : Value) (t : St), Hid (Bo w wx p d F v t t ∧ t.many ≤ k + 1))
        case first =>
          have HO : Hid (Ok s) := J9.out.bo.wl.at_.1
          have HM1 : Hid (s.many < 1099511627776) := by have := HM.out; show _ < _; omega
          have c10 := J9.out.c2
          clear c9 AM
          obtain rfl | rfl | rfl : m = 0 ∨ m = 1 ∨ m = 2 := by omega
          · have P := putL w w10 p F s y xi HR'.out HM1.out J9.out.bo.wl
            obtain ⟨n1, hn1⟩ : ∃ n1, putV s y = n1 := ⟨_, rfl⟩
            obtain ⟨e1, he1⟩ : ∃ e1, putE s y = e1 := ⟨_, rfl⟩
            have R : Hid (∀ (W : World), DAt W d v s → Calls Try.prog 13 #[.pointer (some ⟨d, 0, none⟩), .int .i64 y, .int .i64 xi] W fun e w' => e = .returned (.tuple #[.int .i64 n1, .int .i64 e1]) ∧ DSt W d v (putS s y xi) w') := fun W hW => by
              have := rput_any d v s HO.out y xi HM1.out W hW
              rw [hn1, he1] at this
              exact this
            rw [hn1, he1] at P
            have PP : Hid _ := P
            have KM : Hid ((putS s y xi).many ≤ k + 1) := Nat.le_trans (put_many s y xi) (Nat.succ_le_succ HM.out)
            obtain ⟨t, ht⟩ : ∃ t, putS s y xi = t := ⟨_, rfl⟩
            rw [ht] at PP KM R
            clear P hn1 he1 HM HM1 HO ht
            go_wp2_with fail
            refine Calls.mono PP.out ?_
            rintro e w11 ⟨rfl, F', h1, h2, h3⟩
            have J11 : Hid (Bx w w11 p d F' v t s B xi) := J9.out.one h1 h2 h3
            have c11 := J11.out.c2
            clear h1 h2 h3 PP J9 c10
            go_wp2_with fail
            refine Calls.mono (R.out _ J11.out.bo.da) ?_
            rintro e w12 ⟨rfl, D⟩
            obtain ⟨u, J12'⟩ := J11.out.two D
            have J12 : Hid _ := J12'.bo
            clear D J12' J11 c11 R
            go_wp2
            go_meet
            case rel => exact ⟨F', u, t, J12.out, KM.out⟩
          · have KM : Hid ((canS s xi).many ≤ k + 1) := Nat.le_succ_of_le HM.out
            obtain ⟨e1, he1⟩ : ∃ e1, canE s xi = e1 := ⟨_, rfl⟩
            have C1 : Hid (∀ (W : World) (F : Nat → Prop) (v : Value) (t : St), Hid (Bx w W p d F v s t B xi) → Calls Try.prog 14 #[.pointer (some ⟨p, 0, none⟩), .int .i64 xi] W fun e w' => e = .returned (.int .i64 e1) ∧ ∃ F', Hid (Bx w w' p d F' v (canS s xi) t B xi)) := fun W F v t hW => by
              have := canL w W p F s xi HR'.out HM1.out hW.out.bo.wl
              rw [he1] at this
              exact this.mono fun _ _ ⟨h0, F', h1, h2, h3⟩ => ⟨h0, F', hW.out.one h1 h2 h3⟩
            have C2 : Hid (∀ (W : World) (F : Nat → Prop) (v : Value) (t : St), Hid (Bx w W p d F v t s B xi) → Calls Try.prog 15 #[.pointer (some ⟨d, 0, none⟩), .int .i64 xi] W fun e w' => e = .returned (.int .i64 e1) ∧ ∃ u, Hid (Bx w w' p d F u t (canS s xi) B xi)) := fun W F v t hW => by
              have := rcan_any d v s HO.out xi W hW.out.bo.da
              rw [he1] at this
              exact this.mono fun _ _ ⟨h0, h1⟩ => ⟨h0, hW.out.two h1⟩
            obtain ⟨t, ht⟩ : ∃ t, canS s xi = t := ⟨_, rfl⟩
            rw [ht] at C1 C2 KM
            have JD : Hid (Bx w w10.drew p d F v s s B xi) := J9.out.later (Below.refl _ _).drew
            have FIN : Hid (∀ (W : World) (F : Nat → Prop) (v : Value), Hid (Bx w W p d F v t t B xi) → ∃ (F : Nat → Prop) (v : Value) (t : St), Hid (Bo w W p d F v t t ∧ t.many ≤ k + 1)) := fun W F v hW => ⟨F, v, t, hW.out.bo, KM.out⟩
            clear he1 HM HM1 HO ht J9 KM
            go_wp2_with fail
            go_region_held3 (fun w' => w'.cell? ⟨B, 2, none⟩ = some (.int .i64 xi)) (first | exact c10 | assumption | exact c2_of (by assumption)) (first | (go_at_call 14; refine Calls.mono (C1.out _ _ _ _ (by assumption)) ?_; rintro e w11 ⟨rfl, F11, J11⟩) | (go_at_call 15; refine Calls.mono (C2.out _ _ _ _ (by assumption)) ?_; rintro e w12 ⟨rfl, u12, J12⟩))
            all_goals (go_wp2; go_meet)
            all_goals (exact FIN.out _ _ _ (by assumption))
          · have P := advL w w10 p F s y HM1.out J9.out.bo.wl
            obtain ⟨e1, he1⟩ : ∃ e1, advE s y = e1 := ⟨_, rfl⟩
            have R : Hid (∀ (W : World), DAt W d v s → Calls Try.prog 17 #[.pointer (some ⟨d, 0, none⟩), .int .i64 y] W fun e w' => RvP W d v (advS s y) (advV s y) e1 e w') := fun W hW => by
              have := radv_any d v s HO.out y W hW
              rw [he1] at this
              exact this
            rw [he1] at P
            have PP : Hid _ := P
            have KM : Hid ((advS s y).many ≤ k + 1) := by rw [adv_many]; exact Nat.le_succ_of_le HM.out
            have LL : Hid ((advV s y).length ≤ 4096) := by
              show _ ≤ _
              unfold advV
              split
              · rw [List.length_map]
                exact Nat.le_trans (List.length_filter_le _ _) HO.out.long
              · exact Nat.zero_le _
            obtain ⟨t, ht⟩ : ∃ t, advS s y = t := ⟨_, rfl⟩
            obtain ⟨V, hV⟩ : ∃ V, advV s y = V := ⟨_, rfl⟩
            rw [ht] at PP KM R
            rw [hV] at PP R LL
            clear P he1 HM HM1 HO ht hV
            go_wp2_with fail
            refine Calls.mono PP.out ?_
            rintro e w11 ⟨F', va, vn, vc, rfl, h1, h2, h3, h4, h5⟩
            have J11 : Hid (Bo w w11 p d F' v t s) := J9.out.bo.one h1 h2 h3
            have O11 : Hid (OwnsI w11 (.slice va vn vc) V) := h4
            have N11 : Hid (∀ g, (Value.slice va vn vc).ownBlock = some g → ¬ F' g ∧ g ≠ d ∧ v.ownBlock ≠ some g ∧ w.heap.size ≤ g ∧ g < w11.heap.size) := fun g e => by
              have q1 := h5 g e
              have q2 := J9.out.bo.da.lt
              have q3 := J9.out.bo.wl.below.size
              exact ⟨q1.1, by omega, fun c => by have := (J9.out.bo.da.row.lt g c).2; omega, by omega, (h4.lt g e).2⟩
            clear h1 h2 h3 h4 h5 PP J9 c10
            go_wp2_with fail
            refine Calls.mono (R.out _ J11.out.da) ?_
            rintro e w12 ⟨oa, om, oc, rfl, D, O2, -⟩
            have O12 : Hid (OwnsI w12 (.slice va vn vc) V) := by
              obtain ⟨u, -, -, k3⟩ := D
              exact O11.out.kept k3 (fun g e c => (N11.out g e).2.1 c)
            obtain ⟨i1, l1⟩ := owns_int O12.out
            obtain ⟨i2, l2⟩ := owns_int O2
            obtain rfl : vn = om := by rw [← l1, l2]
            have JJ : Hid (∃ u, Bo w w12 p d F' u t t ∧ ∀ g, (Value.slice va vn vc).ownBlock = some g → ¬ F' g ∧ g ≠ d ∧ u.ownBlock ≠ some g ∧ w.heap.size ≤ g) := by
              obtain ⟨u, k1, k2, k3⟩ := D
              have b := J11.out
              have hB : Below w.heap.size w w12 := b.wl.below.trans (k3.below (fun g e => by rw [e]; exact b.n1) b.wl.below.size)
              refine ⟨u, ⟨⟨b.wl.at_.other k3 (fun g hg e => b.a1 (by rw [← e]; exact hg)), b.wl.new, hB⟩, k1, b.a1, fun g hg c => ?_, b.n1, fun g hg => ?_⟩, fun g e => ⟨(N11.out g e).1, (N11.out g e).2.1, fun c => ?_, (N11.out g e).2.2.2.1⟩⟩
              · rcases k2 g hg with e | e
                · exact b.a2 g e c
                · have := b.wl.at_.lt c
                  omega
              · rcases k2 g hg with e | e
                · exact b.n2 g e
                · have := b.wl.below.size
                  omega
              · rcases k2 g c with q | q
                · exact (N11.out g e).2.2.1 q
                · have := (N11.out g e).2.2.2.2
                  omega
            have SM : Hid _ := same_ints va oa V vn vc oc l1 (by have := LL.out; omega) w12 i1 i2
            clear D O2 i1 i2 l1 l2 O11 N11 J11 R
            go_wp2_with fail
            refine Calls.mono SM.out ?_
            rintro e w13 ⟨rfl, hb13⟩
            have SP : Hid _ := spoil_any va vn vc (-99) V w13 (O12.out.later hb13)
            have JK : Hid (∀ w14, Bf (fun g => (Value.slice va vn vc).ownBlock = some g) w13 w14 → ∃ u, Bo w w14 p d F' u t t) := fun w14 hb => by
              obtain ⟨u, j1, j2⟩ := JJ.out
              exact ⟨u, (j1.later hb13).beside hb j2⟩
            clear hb13 SM JJ O12
            go_wp2_with fail
            refine Calls.mono SP.out ?_
            rintro e w14 ⟨rfl, hb14⟩
            obtain ⟨u, J14'⟩ := JK.out w14 hb14
            have J14 : Hid _ := J14'
            clear hb14 J14' JK SP
            go_wp2
            go_meet
            case rel => exact ⟨F', u, t, J14.out, KM.out⟩
        case rest =>
          obtain ⟨F, v, t, J⟩ := hcut
          clear J9 c9 AM HM HR'
          have N1 : Hid (∀ W, Hid (WAt W p F t) → _) := fun W hW => next_any p F t W hW
          have N2 : Hid (∀ W, Hid (DAt W d v t) → _) := fun W hW => rnext_any d v t W hW
          obtain ⟨q1, hq1⟩ : ∃ q1, nextV t = q1 := ⟨_, rfl⟩
          obtain ⟨q2, hq2⟩ : ∃ q2, nextB t = q2 := ⟨_, rfl⟩
          unfold NxtP at N1
          rw [hq1, hq2] at N1 N2
          clear hq1 hq2
          go_wp2_with fail
          refine Calls.mono (N1.out _ J.out.1.wl.at_) ?_
          rintro e w20 ⟨rfl, hb20⟩
          have J20 : Hid (Bo w w20 p d F v t t ∧ t.many ≤ k + 1) := ⟨J.out.1.later hb20, J.out.2⟩
          clear J hb20 N1
          go_wp2_with fail
          refine Calls.mono (N2.out _ J20.out.1.da) ?_
          rintro e w21 ⟨rfl, hw21⟩
          subst hw21
          clear N2
          obtain ⟨va, vc, rfl, -⟩ := J20.out.1.da.val
          have C1 : Hid (∀ W, Hid (WAt W p F t) → Calls Try.prog 22 #[.pointer (some ⟨p, 0, none⟩)] W fun e w' => e = .returned (.int .i64 (t.now : Int)) ∧ w' = W) := fun W hW => nowW_any p F t W hW.out
          have C2 : Hid (∀ W, Hid (WAt W p F t) → Calls Try.prog 23 #[.pointer (some ⟨p, 0, none⟩)] W fun e w' => e = .returned (.int .i64 (t.l.length : Int)) ∧ w' = W) := fun W hW => lenW_any p F t W hW.out
          have d0 := J20.out.1.da.c0
          have d1 := J20.out.1.da.c1
          have d2 : Hid (WAt w21.drew p F t) := J20.out.1.wl.at_.later (Below.refl _ _).drew
          have J21 : Hid (Bo w w21.drew p d F (.slice va t.l.length vc) t t ∧ t.many ≤ k + 1) := ⟨J20.out.1.later (Below.refl _ _).drew, J20.out.2⟩
          obtain ⟨n, hn⟩ : ∃ n : Nat, t.l.length = n := ⟨_, rfl⟩
          rw [hn] at d0 C2 J21
          clear hn J20
          go_wp2_with fail
          go_region_held3 (fun w' => w'.cell? ⟨d, 0, none⟩ = some (.slice va n vc) ∧ w'.cell? ⟨d, 1, none⟩ = some (.int .i64 (t.now : Int)) ∧ Hid (WAt w' p F t) ∧ w21.drew = w') (first | exact ⟨d0, d1, d2, rfl⟩ | assumption) (first | (go_at_call 22; refine Calls.mono (C1.out _ (by first | assumption | (rename_i hS; exact hS.2.2.1))) ?_; rintro e w9 ⟨rfl, rfl⟩) | (go_at_call 23; refine Calls.mono (C2.out _ (by first | assumption | (rename_i hS; exact hS.2.2.1))) ?_; rintro e w9 ⟨rfl, rfl⟩))
          clear d0 d1 d2 C1 C2
          go_wp2
          go_roundw
          case rel => exact ⟨k + 1, F, _, t, by omega, by omega, by go_num, J21.out⟩
          case measure => simp [intOf]; omega
      · obtain rfl : k = 200 := by omega
        have g1 : ((200 : Nat) : Int) < (len : Int) := by omega
        have FF : Hid (Below w.heap.size w wr) := I.out.1.wl.below
        clear I
        go_wp2
        go_ret
        exact ⟨rfl, FF.out⟩
    · obtain rfl : k = len := by omega
      have FF : Hid (Below w.heap.size w wr) := I.out.1.wl.below
      clear I
      go_wp2
      go_ret
      exact ⟨rfl, FF.out⟩
end Go.Proofs.Ythnkkkiobbnpmaa
