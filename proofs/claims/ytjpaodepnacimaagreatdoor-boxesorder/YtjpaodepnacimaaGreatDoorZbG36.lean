/- Parts: BpX, BpY. -/
import Derived.Test.YtjpaodepnacimaaGreatDoorZbG35
namespace Go.Proofs.YtjpaodepnacimaaGreatDoor
open Go.RowKit Go.Proofs.Fd Go.Proofs.Dk Go.Proofs.Lg Go.Proofs.Bx
set_option maxRecDepth 20000
def Qx (w : World) (p q b quota n k : Nat) (bx : Bxs) (W : World) : Prop := ∃ s x F v vs, Py w W p F s q v x b quota vs bx ∧ Up n s ∧ x.h ≤ 1 ∧ x.tk ≤ k ∧ x.g ≤ 1 ∧ s.l.length ≤ 12000 * k
theorem Qx.later {w : World} {p q b quota n k : Nat} {bx : Bxs} {W W' : World} (h : Qx w p q b quota n k bx W) (hb : Below W.heap.size W W') : Qx w p q b quota n k bx W' := by
  obtain ⟨s, x, F, v, vs, py, r⟩ := h
  exact ⟨s, x, F, v, vs, py.later hb, r⟩
theorem Py.below {w wr : World} {p : Nat} {F : Nat → Prop} {s : St} {q : Nat} {v : Value} {x : Lo} {b quota : Nat} {vs : List Value} {bx : Bxs} (k : Py w wr p F s q v x b quota vs bx) : Below w.heap.size w wr := k.lz.hd_.dl.below
theorem Qx.below {w : World} {p q b quota n k : Nat} {bx : Bxs} {W : World} (h : Qx w p q b quota n k bx W) : Below w.heap.size w W := by
  obtain ⟨s, x, F, v, vs, py, r⟩ := h
  exact py.below
theorem up_n {n : Nat} {s : St} (h : Up n s) : s.n = n := by
  obtain ⟨f, l, rfl⟩ := h
  rfl
theorem qx_put (w : World) (p q b quota n k m : Nat) (bx : Bxs) (W : World) (u : Nat) (i t : Bs) (hk : Hid (Kh w)) (h : Qx w p q b quota n k bx W) (gm : Gm m bx) (hm : m ≤ 30000) (hu : u < 64) (hi : okI i = true) (ht : t.length ≤ 28) (hx : i ∉ ids (bx u)) (hq : (bx u).length < quota) (hr : 1 + k ≤ n / 2) (h4 : 4 ≤ n) (hn : n ≤ 1024) (hk2 : k ≤ 20) :
    Calls Tryz.prog 21 #[.pointer (some ⟨b, 0, none⟩), .int .i64 (u : Int), .string (st i), .string (st t)] W fun e w' => e = .returned (.int .i64 0) ∧ Qx w p q b quota n (k + 1) (upB bx u (bx u ++ [(i, t)])) w' := by
  obtain ⟨s, x, F, v, vs, py, us, hh, htk, hg, hl⟩ := h
  have hu' : noU (u : Int) = false := by unfold noU; simp; omega
  have hrl : (putR u i t).length = 18 + t.length := by
    have := okI_len hi
    show (i ++ t).length + 1 + 1 = _
    rw [List.length_append]
    omega
  have hsn : sn (putR u i t) = 1 := sn_small (by rw [hrl]; omega)
  have e1 : puX quota s x bx (u : Int) i t = wrX s x bx (upB bx u (bx u ++ [(i, t)])) [putR u i t] := by
    unfold puX
    rw [if_neg (by rw [hu']; decide), if_neg (by rw [hi]; decide), if_neg (by omega), Int.toNat_natCast, if_neg hx, if_neg (by omega)]
  obtain ⟨a1, a2, a3, a4⟩ := wrX_ok us hh (r := putR u i t) (putR_may (okI_len hi) (by omega)) (by rw [hsn]; omega) bx (upB bx u (bx u ++ [(i, t)]))
  have kp := (kp_puX (q := quota) (s := s) hh (by rw [up_n us]; exact h4) bx (u : Int) i t).1.l
  have hs : s.n = n := up_n us
  refine (xputB_any w p q b quota s x bx F v vs (u : Int) (st i) (st t) gm.g (Nat.le_trans gm.m hm) (by omega) hk W py).mono ?_
  rintro e w' ⟨he, hp⟩
  rw [st_data, st_data] at he hp
  rw [e1] at he hp kp
  rw [a1] at he
  rw [a4] at hp
  obtain ⟨F', v', vs', py', -, -⟩ := hp
  refine ⟨he, _, _, F', v', vs', py', a2, by rw [a3]; exact hh, ?_, by rw [a3]; exact hg, by omega⟩
  rw [a3]
  show tkn 1 (x.ts ++ [putR u i t]) ≤ _
  rw [tkn_app, hsn]
  have : tkn 1 x.ts ≤ k := htk
  omega
theorem qx_there (w : World) (p q b quota n k m : Nat) (bx : Bxs) (W : World) (u : Nat) (i t : Bs) (hk : Hid (Kh w)) (h : Qx w p q b quota n k bx W) (gm : Gm m bx) (hm : m ≤ 30000) (hu : u < 64) (hi : okI i = true) (ht : t.length ≤ 28) (hx : i ∈ ids (bx u)) (hk2 : k ≤ 20) :
    Calls Tryz.prog 21 #[.pointer (some ⟨b, 0, none⟩), .int .i64 (u : Int), .string (st i), .string (st t)] W fun e w' => e = .returned (.int .i64 6) ∧ Qx w p q b quota n k bx w' := by
  obtain ⟨s, x, F, v, vs, py, us, hh, htk, hg, hl⟩ := h
  have hu' : noU (u : Int) = false := by unfold noU; simp; omega
  have e1 : puX quota s x bx (u : Int) i t = (((6, s), x), bx) := by
    unfold puX
    rw [if_neg (by rw [hu']; decide), if_neg (by rw [hi]; decide), if_neg (by omega), Int.toNat_natCast, if_pos hx]
  refine (xputB_any w p q b quota s x bx F v vs (u : Int) (st i) (st t) gm.g (Nat.le_trans gm.m hm) (by omega) hk W py).mono ?_
  rintro e w' ⟨he, hp⟩
  rw [st_data, st_data, e1] at he hp
  obtain ⟨F', v', vs', py', -, -⟩ := hp
  exact ⟨he, _, _, F', v', vs', py', us, hh, htk, hg, hl⟩
theorem len_next {a b n k : Nat} (h : a ≤ b + (n + 10300)) (hl : b ≤ 12000 * k) (hn : n ≤ 1024) : a ≤ 12000 * (k + 1) := by
  rw [Nat.mul_add, Nat.mul_one]
  exact Nat.le_trans h (Nat.add_le_add hl (Nat.le_trans (Nat.add_le_add_right hn 10300) (Nat.le_of_ble_eq_true rfl)))
theorem qx_ack (w : World) (p q b quota n k m : Nat) (bx : Bxs) (W0 W : World) (u : Nat) (i t : Bs) (a : Option Addr) (c : Nat) (hk : Hid (Kh w)) (h0 : Qx w p q b quota n k bx W0) (hbl : Below W0.heap.size W0 W) (gm : Gm m bx) (hm : m ≤ 30000) (hu : u < 64) (hi : okI i = true) (hb : bx u = [(i, t)]) (tx : TxAt W a [i]) (hr : 1 + k ≤ n / 2) (h4 : 4 ≤ n) (hn : n ≤ 1024) (hk2 : k ≤ 20) :
    Calls Tryz.prog 23 #[.pointer (some ⟨b, 0, none⟩), .int .i64 (u : Int), .slice a 1 c] W fun e w' => e = .returned (.tuple #[.int .i64 1, .int .i64 0]) ∧ Qx w p q b quota n (k + 1) (upB bx u []) w' ∧ Bf (fun z => z < W0.heap.size) W w' := by
  obtain ⟨s, x, F, v, vs, py0, us, hh, htk, hg, hl⟩ := h0
  have py := py0.later hbl
  have hu' : noU (u : Int) = false := by unfold noU; simp; omega
  have hmem : i ∈ ids (bx u) := by rw [hb]; exact List.mem_cons_self ..
  have ea : aks (bx u) [i] = [i] := by rw [aks, if_pos hmem, aks]
  have er : rms (bx u) [i] = [] := by rw [hb, rms, rms, rmL, if_pos rfl]
  have hsn : sn (ackR u i) = 1 := sn_small (by rw [ackR_len (okI_len hi)]; omega)
  have W1 := wrX_ok us hh (r := ackR u i) (ackR_may (okI_len hi)) (by rw [hsn]; omega) bx (upB bx u [])
  obtain ⟨R, hR⟩ : ∃ R, wrX s x bx (upB bx u []) [ackR u i] = R := ⟨_, rfl⟩
  rw [hR] at W1
  obtain ⟨a1, a2, a3, a4⟩ := W1
  have e1 : akX s x bx (u : Int) [i] = (1, R) := by
    unfold akX
    rw [if_neg (by rw [hu']; decide), if_neg (by simp [hi]), if_neg (by simp), Int.toNat_natCast, ea, if_neg (by simp), er]
    simp only [List.map_cons, List.map_nil, hR, a1, List.length_singleton, if_true]
  have kp := (kp_akX (s := s) hh (by rw [up_n us]; exact h4) bx (u : Int) [i]).1.l
  have hs : s.n = n := up_n us
  refine (xackB_any w p q b quota s x bx F v vs (u : Int) a 1 c [i] rfl (by omega) (by omega) gm.g (Nat.le_trans gm.m hm) (by omega) hk W tx py).mono ?_
  rintro e w' ⟨he, hp⟩
  rw [e1] at he hp kp
  simp only at he hp kp
  rw [a1] at he
  rw [a3, a4] at hp
  obtain ⟨F', v', vs', py', -, bf⟩ := hp
  have kp' : R.1.1.2.l.length ≤ s.l.length + (s.n + 10300) := kp
  rw [hs] at kp'
  have hl2 : R.1.1.2.l.length ≤ 12000 * (k + 1) := len_next kp' hl hn
  refine ⟨he, ⟨_, _, F', v', vs', py', a2, hh, ?_, hg, hl2⟩, bf.wide fun z hz => (py0.lt hz).1⟩
  show tkn 1 (x.ts ++ [ackR u i]) ≤ _
  rw [tkn_app, hsn]
  have : tkn 1 x.ts ≤ k := htk
  omega
theorem qx_first (w : World) (p q b quota n k m : Nat) (bx : Bxs) (W : World) (u z : Nat) (h : Qx w p q b quota n k bx W) (gm : Gm m bx) (hm : m ≤ 30000) (hu : u < 64) (hz : z ≤ 256) (hl : (bx u).length ≤ z) :
    Calls Tryz.prog 22 #[.pointer (some ⟨b, 0, none⟩), .int .i64 (u : Int), .int .i64 (z : Int)] W fun e w' => ∃ a c, e = .returned (.tuple #[.slice a (bx u).length c, .int .i64 0]) ∧ Sli w' a (bx u).length c (bx u) ∧ Below W.heap.size W w' ∧ ∀ y, a = some y → W.heap.size ≤ y.block := by
  obtain ⟨s, x, F, v, vs, py, r⟩ := h
  have hu' : noU (u : Int) = false := by unfold noU; simp; omega
  have e1 : fiX bx (u : Int) (z : Int) = (0, bx u) := by
    unfold fiX
    rw [if_neg (by rw [hu']; simp; omega), Int.toNat_natCast, Int.toNat_natCast, List.take_of_length_le hl]
  refine (xfirst_any w p q b quota s x bx F v vs (u : Int) (z : Int) gm.g (Nat.le_trans gm.m hm) W py).mono ?_
  rintro e w' ⟨y, he, ho, hb⟩
  rw [e1] at he ho
  obtain ⟨a, c, rfl, sl, hn⟩ := owns_sl rfl ho
  exact ⟨a, c, he, sl, hb, hn⟩
theorem qx_new (w w0 : World) (p : Nat) (F0 : Nat → Prop) (n quota : Nat) (h4 : 4 ≤ n) (hn : n ≤ 1024) (hq : 1 ≤ quota) (hq2 : quota ≤ 256) (hk : Hid (Kh w)) (D : Dl w w0 p F0 (up n zs [])) :
    Calls Tryz.prog 15 #[.pointer (some ⟨p, 0, none⟩), .int .i64 (quota : Int)] w0 fun e w' => ∃ q b, e = .returned (.tuple #[.pointer (some ⟨b, 0, none⟩), .int .i64 0]) ∧ Qx w p q b quota n 1 (fun _ => []) w' := by
  have eo := opn_blank (n := n) zs (fun _ => rfl) (by omega)
  have ex : opX (quota : Int) (up n zs []) (opn (up n zs [])) = ((0, (opn (up n zs [])).1.2), some ((opn (up n zs [])).2, fun _ => [])) := by
    unfold opX
    rw [if_neg (by omega), eo]
    rfl
  refine (xopen_any w w0 p F0 (up n zs []) (quota : Int) (by show n ≤ 1024; exact hn) (by show 0 + 5000 ≤ 1000000; decide) hk D).mono ?_
  intro e w' h
  rw [ex] at h
  obtain ⟨q, b, he, -, F, v, vs, py, -, -⟩ := h
  rw [eo] at py
  rw [Int.toNat_natCast] at py
  exact ⟨q, b, he, _, _, F, v, vs, py, ⟨_, _, rfl⟩, by show (0 : Nat) ≤ 1; decide, by show tkn 1 [] ≤ 1; decide, by show (1 : Nat) ≤ 1; decide, by show 0 ≤ _; exact Nat.zero_le _⟩
set_option maxHeartbeats 4000000 in
theorem lxworks_any (w : World) (hk : Hid (Kh w)) : Calls Tryz.prog 7 #[] w fun e w' => e = .returned (.bool true) ∧ Below w.heap.size w w' := by
  have NW : Hid _ := newL w w 40 (by decide) (by decide) (Below.refl _ _)
  have OP : Hid (∀ p F W, Dl w W p F (up 40 zs []) → Calls Tryz.prog 15 #[.pointer (some ⟨p, 0, none⟩), .int .i64 4] W fun e w' => ∃ q b, e = .returned (.tuple #[.pointer (some ⟨b, 0, none⟩), .int .i64 0]) ∧ Qx w p q b 4 40 1 (fun _ => []) w') := fun p F W d => qx_new w W p F 40 4 (by decide) (by decide) (by decide) (by decide) hk d
  obtain ⟨AMm, AMl, AMi, AMc⟩ := xamong_is 0 20 (by decide) (by decide)
  have e0 : AMm = 0 := AMi 0 rfl (by decide)
  subst e0
  have ID : Hid (∀ W, Calls Tryz.prog 16 #[.int .i64 0] W fun e w' => e = .returned (.string (st (xid 0))) ∧ Below W.heap.size W w') := fun W => lxid_any 0 (by decide) 0 AMc W
  obtain ⟨B1, hB1⟩ : ∃ B, upB (fun _ => []) 1 [(xid 0, [104, 105])] = B := ⟨_, rfl⟩
  have b11 : B1 1 = [(xid 0, [104, 105])] := by rw [← hB1, upB_same]
  have G1 : Gm 1 B1 := by
    have := Gm.nil.put (u := 1) (i := xid 0) (t := [104, 105]) (by decide) (xid_ok 0) (by decide) (by show _ ∉ []; simp)
    rw [← hB1]
    exact this
  have G2 : Gm 1 (upB B1 1 []) := by
    have := G1.rms (u := 1) [xid 0] (by decide)
    rw [b11] at this
    have e : rms [(xid 0, [104, 105])] [xid 0] = [] := by rw [rms, rms, rmL, if_pos rfl]
    rw [e] at this
    exact this
  have P1 : Hid (∀ p q b W, Qx w p q b 4 40 1 (fun _ => []) W → Calls Tryz.prog 21 #[.pointer (some ⟨b, 0, none⟩), .int .i64 1, .string (st (xid 0)), .string ⟨#[104, 105]⟩] W fun e w' => e = .returned (.int .i64 0) ∧ Qx w p q b 4 40 2 B1 w') := fun p q b W h => by
    rw [← hB1]
    exact qx_put w p q b 4 40 1 0 (fun _ => []) W 1 (xid 0) [104, 105] hk h Gm.nil (by decide) (by decide) (xid_ok 0) (by decide) (by show _ ∉ []; simp) (by show 0 < 4; decide) (by decide) (by decide) (by decide) (by decide)
  have P2 : Hid (∀ p q b W, Qx w p q b 4 40 2 B1 W → Calls Tryz.prog 21 #[.pointer (some ⟨b, 0, none⟩), .int .i64 1, .string (st (xid 0)), .string ⟨#[104, 111]⟩] W fun e w' => e = .returned (.int .i64 6) ∧ Qx w p q b 4 40 2 B1 w') := fun p q b W h =>
    qx_there w p q b 4 40 2 1 B1 W 1 (xid 0) [104, 111] hk h G1 (by decide) (by decide) (xid_ok 0) (by decide) (by rw [b11]; exact List.mem_cons_self ..) (by decide)
  have F1 : Hid (∀ p q b W, Qx w p q b 4 40 2 B1 W → Calls Tryz.prog 22 #[.pointer (some ⟨b, 0, none⟩), .int .i64 1, .int .i64 4] W fun e w' => ∃ g o c, e = .returned (.tuple #[.slice (some ⟨g, o, none⟩) 1 c, .int .i64 0]) ∧ w'.cell? ⟨g, o + 1, none⟩ = some (.string ⟨#[104, 105]⟩) ∧ Below W.heap.size W w' ∧ W.heap.size ≤ g) := fun p q b W h => by
    have := qx_first w p q b 4 40 2 1 B1 W 1 4 h G1 (by decide) (by decide) (by decide) (by rw [b11]; decide)
    rw [b11] at this
    refine this.mono ?_
    rintro e w' ⟨a, c, he, sl, hb, hn⟩
    obtain ⟨g, o, rfl, -, c1⟩ := sl.at_ 0 (by decide)
    exact ⟨g, o, c, he, c1, hb, hn _ rfl⟩
  have A1 : Hid (∀ p q b W0 W a c, Qx w p q b 4 40 2 B1 W0 → Below W0.heap.size W0 W → TxAt W a [xid 0] → Calls Tryz.prog 23 #[.pointer (some ⟨b, 0, none⟩), .int .i64 1, .slice a 1 c] W fun e w' => e = .returned (.tuple #[.int .i64 1, .int .i64 0]) ∧ Qx w p q b 4 40 3 (upB B1 1 []) w' ∧ Bf (fun z => z < W0.heap.size) W w') := fun p q b W0 W a c h hb tx =>
    qx_ack w p q b 4 40 2 1 B1 W0 W 1 (xid 0) [104, 105] a c hk h hb G1 (by decide) (by decide) (xid_ok 0) b11 tx (by decide) (by decide) (by decide) (by decide)
  have F2 : Hid (∀ p q b W, Qx w p q b 4 40 3 (upB B1 1 []) W → Calls Tryz.prog 22 #[.pointer (some ⟨b, 0, none⟩), .int .i64 1, .int .i64 4] W fun e w' => ∃ a c, e = .returned (.tuple #[.slice a 0 c, .int .i64 0]) ∧ Below W.heap.size W w') := fun p q b W h => by
    have := qx_first w p q b 4 40 3 1 (upB B1 1 []) W 1 4 h G2 (by decide) (by decide) (by decide) (by rw [upB_same]; decide)
    rw [upB_same] at this
    exact this.mono fun e w' ⟨a, c, he, _, hb, _⟩ => ⟨a, c, he, hb⟩
  clear hk G1 G2 b11 hB1 AMl AMi AMc
  obtain ⟨I, hI⟩ : ∃ I, st (xid 0) = I := ⟨_, rfl⟩
  rw [hI] at ID P1 P2
  have TX : Hid (∀ W : World, TxAt (W.alloc (.cells #[.string I] 9)) (some ⟨W.heap.size, 0, none⟩) [xid 0]) := fun W i hi => by
    obtain rfl : i = 0 := by simpa using hi
    exact ⟨W.heap.size, 0, rfl, by rw [World.cell?_alloc_new]; show some (Value.string I) = some (sv (xid 0)); rw [← hI]⟩
  clear hI
  go_enter Tryz.func7, Tryz.ntmps7
  go_wp2_with fail
  refine Calls.mono NW.out ?_
  rintro e w1 ⟨p, F, rfl, I1, -, -⟩
  have J1 : Hid (Dl w w1 p F (up 40 zs [])) := I1
  clear NW I1
  go_wp2_with fail
  refine Calls.mono (OP.out p F w1 J1.out) ?_
  rintro e w2 ⟨q, b, rfl, s2⟩
  have J2 : Hid _ := s2
  clear OP J1 s2
  go_wp2_with fail
  refine Calls.mono (ID.out _) ?_
  rintro e w3 ⟨rfl, hb3⟩
  have J3 : Hid _ := Qx.later J2.out hb3
  clear J2 hb3
  go_wp2_with fail
  refine Calls.mono (P1.out p q b _ J3.out) ?_
  rintro e w4 ⟨rfl, s4⟩
  have J4 : Hid _ := s4
  clear P1 J3 s4
  go_wp2_with fail
  refine Calls.mono (ID.out _) ?_
  rintro e w5 ⟨rfl, hb5⟩
  have J5 : Hid _ := Qx.later J4.out hb5
  clear J4 hb5
  go_wp2_with fail
  refine Calls.mono (P2.out p q b _ J5.out) ?_
  rintro e w6 ⟨rfl, s6⟩
  have J6 : Hid _ := s6
  clear P2 J5 s6
  go_wp2_with fail
  refine Calls.mono (F1.out p q b _ J6.out) ?_
  rintro e w7 ⟨g, o, c, rfl, c7, hb7, hg⟩
  have B7 : Hid _ := hb7
  have HG : Hid _ := hg
  have C7 : Hid _ := c7
  clear F1 hb7 hg c7
  go_wp2_with fail
  refine Calls.mono (ID.out _) ?_
  rintro e w8 ⟨rfl, hb8⟩
  have A8 : Hid _ := A1.out p q b w6 (w8.alloc (.cells #[.string I] 9)) (some ⟨w8.heap.size, 0, none⟩) 1 J6.out (chain B7.out (chain hb8 (nb _ _))) (TX.out w8)
  have C8 : Hid _ := cell_alloc (o := .cells #[.string I] 9) (cell_later hb8 C7.out)
  clear A1 TX ID hb8 J6 B7 C7
  go_wp2_with fail
  refine Calls.mono A8.out ?_
  rintro e w9 ⟨rfl, s9, bf9⟩
  have J9 : Hid _ := s9
  have C9 : Hid _ := bf9.cell C8.out (by have := HG.out; show ¬ g < _; omega)
  clear A8 C8 s9 bf9 HG
  go_wp2_with fail
  refine Calls.mono (F2.out p q b _ J9.out) ?_
  rintro e w10 ⟨a10, c10, rfl, hb10⟩
  have c11 := cell_later hb10 C9.out
  have BB : Hid (Below w.heap.size w w10) := chain (Qx.below J9.out) hb10
  clear F2 J9 C9 hb10
  go_wp2
  go_ret
  exact ⟨rfl, BB.out⟩
end Go.Proofs.YtjpaodepnacimaaGreatDoor
namespace Go.Proofs.YtjpaodepnacimaaGreatDoor
open Go.RowKit Go.Proofs.Fd Go.Proofs.Dk Go.Proofs.Lg Go.Proofs.Bx
set_option maxRecDepth 20000
structure Doo where
  u : Int
  i : Int
  a : Bool
  t : ByteArray
def DoAt (w : World) (a : Option Addr) (ss : List Doo) : Prop := ∀ i (hi : i < ss.length), ∃ b o, a = some ⟨b, o, none⟩ ∧ w.cell? ⟨b, o + i * 4, none⟩ = some (.int .i64 ss[i].u) ∧ w.cell? ⟨b, o + i * 4 + 1, none⟩ = some (.int .i64 ss[i].i) ∧ w.cell? ⟨b, o + i * 4 + 2, none⟩ = some (.bool ss[i].a) ∧ w.cell? ⟨b, o + i * 4 + 3, none⟩ = some (.string ss[i].t)
theorem DoAt.later {w w' : World} {a : Option Addr} {ss : List Doo} (h : DoAt w a ss) (hb : Below w.heap.size w w') : DoAt w' a ss := fun i hi => by
  obtain ⟨b, o, e, c0, c1, c2, c3⟩ := h i hi
  exact ⟨b, o, e, cell_later hb c0, cell_later hb c1, cell_later hb c2, cell_later hb c3⟩
def Apv (Z : Nat → Prop) (y : Value) : Prop := ∀ a n c z, y = .slice a n c → a = some z → 0 < n → ¬ Z z.block
theorem Apv.next {Z Z' : Nat → Prop} {w : World} {y : Value} {l : List Sl} (h : Apv Z y) (k : Okv w y l) (n : Nx w Z Z') : Apv Z' y := fun a m c z e ez h0 cc => by
  obtain ⟨a', c', e', sl⟩ := k
  have e2 : Value.slice a' l.length c' = .slice a m c := e'.symm.trans e
  injection e2 with e3 e4 e5
  subst e3
  rcases n _ cc with q | q
  · exact h _ _ _ _ e ez h0 q
  · have := sl.at_.lt z ez (by omega)
    omega
theorem Ok3.bf {C : Nat} {w w' : World} {y : Value} {l : List Sl} (h : Ok3 C w y l) {Z : Nat → Prop} (f : Bf Z w w') (k : Apv Z y) : Ok3 C w' y l := by
  obtain ⟨a, c, e, s, hx⟩ := h
  exact ⟨a, c, e, s.bf f (fun x ex h0 => k a _ c x e ex h0), hx⟩
def Oz (w : World) (B p q b quota k : Nat) (bx ls : Bxs) (v0 v1 v2 : Value) (W : World) : Prop := ∃ s x F v vs, Py w W p F s q v x b quota vs bx ∧ Up 200 s ∧ (x.h ≤ 1 ∧ x.g ≤ 1 + k ∧ s.l.length ≤ 12000 * k) ∧ Gm k bx ∧ Blk W B [v0, v1, v2] ∧ (Ok3 B W v0 (ls 0) ∧ Ok3 B W v1 (ls 1) ∧ Ok3 B W v2 (ls 2)) ∧ (¬ FB F q v b vs B ∧ w.heap.size ≤ B) ∧ Apv (FB F q v b vs) v0 ∧ Apv (FB F q v b vs) v1 ∧ Apv (FB F q v b vs) v2
section
variable {w : World} {B p q b quota k : Nat} {bx ls : Bxs} {v0 v1 v2 : Value} {W : World}
theorem Oz.below (h : Oz w B p q b quota k bx ls v0 v1 v2 W) : Below w.heap.size w W := by
  obtain ⟨s, x, F, v, vs, py, -⟩ := h
  exact py.below
theorem Oz.later (h : Oz w B p q b quota k bx ls v0 v1 v2 W) {W' : World} (hb : Below W.heap.size W W') : Oz w B p q b quota k bx ls v0 v1 v2 W' := by
  obtain ⟨s, x, F, v, vs, py, us, r, gm, bk, ⟨o0, o1, o2⟩, a⟩ := h
  exact ⟨s, x, F, v, vs, py.later hb, us, r, gm, bk.later hb, ⟨o0.later hb, o1.later hb, o2.later hb⟩, a⟩
theorem Oz.call {_s s' : St} {_x x' : Lo} {F : Nat → Prop} {v : Value} {vs : List Value} {bx' : Bxs} {W' : World} (bk : Blk W B [v0, v1, v2]) (o : Ok3 B W v0 (ls 0) ∧ Ok3 B W v1 (ls 1) ∧ Ok3 B W v2 (ls 2)) (nB : ¬ FB F q v b vs B ∧ w.heap.size ≤ B) (a : Apv (FB F q v b vs) v0 ∧ Apv (FB F q v b vs) v1 ∧ Apv (FB F q v b vs) v2) (z : PyP w W (FB F q v b vs) p q b quota s' x' bx' W') (us : Up 200 s') (r : x'.h ≤ 1 ∧ x'.g ≤ 1 + k ∧ s'.l.length ≤ 12000 * k) (gm : Gm k bx') : Oz w B p q b quota k bx' ls v0 v1 v2 W' := by
  obtain ⟨F', v', vs', py, n, f⟩ := z
  refine ⟨s', x', F', v', vs', py, us, r, gm, bk.bf f nB.1, ⟨o.1.bf f a.1, o.2.1.bf f a.2.1, o.2.2.bf f a.2.2⟩, ⟨fun c => ?_, nB.2⟩, a.1.next o.1.okv n, a.2.1.next o.2.1.okv n, a.2.2.next o.2.2.okv n⟩
  rcases n _ c with e | e
  · exact nB.1 e
  · have := bk.lt
    omega
end
def nxt (who : Nat) (away : Bool) (i t : Bs) (bx : Bxs) : Bxs := upB bx who (thn away i t (bx who))
section
variable (w : World) (B p q b quota k : Nat) (ls : Bxs) (v0 v1 v2 : Value)
theorem oz_put (W0 W : World) (who m : Nat) (i0 i1 : Int) (T : ByteArray) (hw : who < 3) (hk : Hid (Kh w)) (h0 : Oz w B p q b quota k ls ls v0 v1 v2 W0) (hbl : Below W0.heap.size W0 W) (hk2 : k ≤ 60) (AM : Hid (∀ w, Calls Tryz.prog 14 #[.int .i64 i0, .int .i64 3] w fun e w' => e = .returned (.int .i64 (who : Int)) ∧ w' = w)) (ID : Hid (∀ w, Calls Tryz.prog 16 #[.int .i64 i1] w fun e w' => e = .returned (.string (st (xid m))) ∧ Below w.heap.size w w')) :
    Calls Tryz.prog 17 #[.pointer (some ⟨b, 0, none⟩), .agg #[.int .i64 i0, .int .i64 i1, .bool false, .string T]] W fun e w' => ∃ z, e = .returned (.int .i64 z) ∧ ∃ bx', Oz w B p q b quota (k + 1) bx' ls v0 v1 v2 w' ∧ Bf (fun z => z < W0.heap.size) W w' ∧
      (222 < T.size → z = 2 ∧ bx' = ls) ∧ (¬ 222 < T.size → xid m ∈ ids (ls who) → z = 6 ∧ bx' = ls) ∧ (¬ 222 < T.size → xid m ∉ ids (ls who) → quota ≤ (ls who).length → z = 180 ∧ bx' = ls) ∧ (¬ 222 < T.size → xid m ∉ ids (ls who) → ¬ quota ≤ (ls who).length → (z = 0 ∧ bx' = nxt who false (xid m) T.data.toList ls) ∨ z = 151) := by
  obtain ⟨s, x, F, v, vs, py0, us, ⟨hh, hg, hl⟩, gm, bk, o, nB, a⟩ := h0
  have hu' : noU (who : Int) = false := by unfold noU; simp; omega
  have hTl : T.data.toList.length = T.size := by simp
  have hs : s.n = 200 := up_n us
  refine xdo_put b who i0 i1 T (st (xid m)) (fun z w' => ∃ bx', Oz w B p q b quota (k + 1) bx' ls v0 v1 v2 w' ∧ Bf (fun z => z < W0.heap.size) W w' ∧
      (222 < T.size → z = 2 ∧ bx' = ls) ∧ (¬ 222 < T.size → xid m ∈ ids (ls who) → z = 6 ∧ bx' = ls) ∧ (¬ 222 < T.size → xid m ∉ ids (ls who) → quota ≤ (ls who).length → z = 180 ∧ bx' = ls) ∧ (¬ 222 < T.size → xid m ∉ ids (ls who) → ¬ quota ≤ (ls who).length → (z = 0 ∧ bx' = nxt who false (xid m) T.data.toList ls) ∨ z = 151)) W AM ID ?_
  intro V hV
  have hV0 : Below W0.heap.size W0 V := chain hbl hV
  have py := py0.later hV0
  have kp := (kp_puX (q := quota) (s := s) hh (by rw [hs]; decide) ls (who : Int) (xid m) T.data.toList)
  have kpl := kp.1.l
  have gm' := gm_puX (q := quota) (s := s) (x := x) gm (who : Int) (xid m) T.data.toList
  refine (xputB_any w p q b quota s x ls F v vs (who : Int) (st (xid m)) T gm.g (Nat.le_trans gm.m (by omega)) (by omega) hk V py).mono ?_
  rintro e w' ⟨he, hp⟩
  rw [st_data] at he hp
  have bf : Bf (fun z => z < W0.heap.size) W w' := by
    obtain ⟨F', v', vs', -, -, f⟩ := hp
    exact (Bf.of hV).trans (F' := fun z => z < W0.heap.size) (F := fun z => z < W0.heap.size) (fun z hz => .inl hz) (f.wide fun z hz => (py0.lt hz).1)
  have mk : ∀ R, puX quota s x ls (who : Int) (xid m) T.data.toList = R → Up 200 R.1.1.2 → R.1.2.g ≤ 1 + (k + 1) → Oz w B p q b quota (k + 1) R.2 ls v0 v1 v2 w' := fun R hR h1 h2 => by
    rw [hR] at hp kp kpl gm'
    exact Oz.call (_s := s) (_x := x) (bk.later hV0) ⟨o.1.later hV0, o.2.1.later hV0, o.2.2.later hV0⟩ nB a hp h1 ⟨kp.2, h2, by omega⟩ gm'
  refine ⟨_, he, ?_⟩
  by_cases h1 : 222 < T.size
  · have e1 : puX quota s x ls (who : Int) (xid m) T.data.toList = (((2, s), x), ls) := by
      unfold puX
      rw [if_neg (by rw [hu']; decide), if_neg (by rw [xid_ok]; decide), if_pos (by omega)]
    have M := mk _ e1 us (by show x.g ≤ _; omega)
    rw [e1]
    exact ⟨ls, M, bf, fun _ => ⟨rfl, rfl⟩, fun c => absurd h1 c, fun c => absurd h1 c, fun c => absurd h1 c⟩
  · by_cases h2 : xid m ∈ ids (ls who)
    · have e1 : puX quota s x ls (who : Int) (xid m) T.data.toList = (((6, s), x), ls) := by
        unfold puX
        rw [if_neg (by rw [hu']; decide), if_neg (by rw [xid_ok]; decide), if_neg (by omega), Int.toNat_natCast, if_pos h2]
      have M := mk _ e1 us (by show x.g ≤ _; omega)
      rw [e1]
      exact ⟨ls, M, bf, fun c => absurd c h1, fun _ _ => ⟨rfl, rfl⟩, fun _ c => absurd h2 c, fun _ c => absurd h2 c⟩
    · by_cases h3 : quota ≤ (ls who).length
      · have e1 : puX quota s x ls (who : Int) (xid m) T.data.toList = (((180, s), x), ls) := by
          unfold puX
          rw [if_neg (by rw [hu']; decide), if_neg (by rw [xid_ok]; decide), if_neg (by omega), Int.toNat_natCast, if_neg h2, if_pos h3]
        have M := mk _ e1 us (by show x.g ≤ _; omega)
        rw [e1]
        exact ⟨ls, M, bf, fun c => absurd c h1, fun _ c => absurd c h2, fun _ _ _ => ⟨rfl, rfl⟩, fun _ _ c => absurd h3 c⟩
      · obtain ⟨ua, ub⟩ := puX_up (q := quota) us (by decide) hh (by omega) gm.g (u := (who : Int)) hu' (i := xid m) (t := T.data.toList) (xid_ok m) (by omega) (by rw [Int.toNat_natCast]; exact h2) (by rw [Int.toNat_natCast]; omega)
        rw [Int.toNat_natCast] at ub
        have M := mk _ rfl ua.s (by have := ua.g; omega)
        refine ⟨_, M, bf, fun c => absurd c h1, fun _ c => absurd c h2, fun _ _ c => absurd c h3, fun _ _ _ => ?_⟩
        rcases ua.e with e | e
        · exact .inl ⟨e, ub e⟩
        · exact .inr e
theorem oz_ack (W0 W : World) (who m : Nat) (i0 i1 : Int) (T : ByteArray) (hw : who < 3) (hk : Hid (Kh w)) (h0 : Oz w B p q b quota k ls ls v0 v1 v2 W0) (hbl : Below W0.heap.size W0 W) (hk2 : k ≤ 60) (AM : Hid (∀ w, Calls Tryz.prog 14 #[.int .i64 i0, .int .i64 3] w fun e w' => e = .returned (.int .i64 (who : Int)) ∧ w' = w)) (ID : Hid (∀ w, Calls Tryz.prog 16 #[.int .i64 i1] w fun e w' => e = .returned (.string (st (xid m))) ∧ Below w.heap.size w w')) :
    Calls Tryz.prog 17 #[.pointer (some ⟨b, 0, none⟩), .agg #[.int .i64 i0, .int .i64 i1, .bool true, .string T]] W fun e w' => ∃ z, e = .returned (.int .i64 z) ∧ ∃ bx', Oz w B p q b quota (k + 1) bx' ls v0 v1 v2 w' ∧ Bf (fun z => z < W0.heap.size) W w' ∧ ((z = 0 ∧ bx' = nxt who true (xid m) T.data.toList ls) ∨ z = 151) := by
  obtain ⟨s, x, F, v, vs, py0, us, ⟨hh, hg, hl⟩, gm, bk, o, nB, a⟩ := h0
  have hu' : noU (who : Int) = false := by unfold noU; simp; omega
  have hs : s.n = 200 := up_n us
  refine xdo_ack b who i0 i1 T (st (xid m)) (fun z w' => ∃ bx', Oz w B p q b quota (k + 1) bx' ls v0 v1 v2 w' ∧ Bf (fun z => z < W0.heap.size) W w' ∧ ((z = 0 ∧ bx' = nxt who true (xid m) T.data.toList ls) ∨ z = 151)) W AM ID ?_
  intro V hV
  have nV := nb V (.cells #[.string (st (xid m))] 9)
  have hV1 : Below W.heap.size W (V.alloc (.cells #[.string (st (xid m))] 9)) := chain hV nV
  have hV0 : Below W0.heap.size W0 (V.alloc (.cells #[.string (st (xid m))] 9)) := chain hbl hV1
  have tx : TxAt (V.alloc (.cells #[.string (st (xid m))] 9)) (some ⟨V.heap.size, 0, none⟩) [xid m] := fun i hi => by
    obtain rfl : i = 0 := by simpa using hi
    exact ⟨V.heap.size, 0, rfl, by rw [World.cell?_alloc_new]; rfl⟩
  have kp := (kp_akX (s := s) hh (by rw [hs]; decide) ls (who : Int) [xid m])
  have kpl := kp.1.l
  have gm' := gm_akX (s := s) (x := x) gm (who : Int) [xid m]
  refine (xackB_any w p q b quota s x ls F v vs (who : Int) (some ⟨V.heap.size, 0, none⟩) 1 1 [xid m] rfl (by omega) (by omega) gm.g (Nat.le_trans gm.m (by omega)) (by omega) hk _ tx (py0.later hV0)).mono ?_
  rintro e w' ⟨he, hp⟩
  have bf : Bf (fun z => z < W0.heap.size) W w' := by
    obtain ⟨F', v', vs', -, -, f⟩ := hp
    exact (Bf.of hV1).trans (F' := fun z => z < W0.heap.size) (F := fun z => z < W0.heap.size) (fun z hz => .inl hz) (f.wide fun z hz => (py0.lt hz).1)
  obtain ⟨ua, ub⟩ := akX_up us (by decide) hh (by omega) gm.g (u := (who : Int)) hu' (m := [xid m]) (fun i hi => by rw [List.mem_singleton.1 hi]; exact xid_ok m) (by simp)
  rw [Int.toNat_natCast, rms_one (gm.g.n who)] at ub
  refine ⟨_, _, he, _, Oz.call (_s := s) (_x := x) (bk.later hV0) ⟨o.1.later hV0, o.2.1.later hV0, o.2.2.later hV0⟩ nB a hp ua.s ⟨kp.2, by have := ua.g; omega, len_next kpl hl (by rw [hs]; decide)⟩ (gm'.mono (Nat.le_succ k)), bf, ?_⟩
  rcases ua.e with e | e
  · exact .inl ⟨e, ub e⟩
  · exact .inr e
theorem oz_list {bx : Bxs} {W : World} (h : Oz w B p q b quota k bx ls v0 v1 v2 W) : ∃ x0 x1 x2 c0 c1 c2, v0 = .slice x0 (ls 0).length c0 ∧ v1 = .slice x1 (ls 1).length c1 ∧ v2 = .slice x2 (ls 2).length c2 ∧ ∀ who, who < 3 → ∃ a c, ([v0, v1, v2] : List Value)[who]? = some (.slice a (ls who).length c) ∧ SlAt W a (ls who) := by
  obtain ⟨s, x, F, v, vs, py, us, r, gm, bk, ⟨⟨x0, c0, e0, s0, -⟩, ⟨x1, c1, e1, s1, -⟩, ⟨x2, c2, e2, s2, -⟩⟩, -⟩ := h
  refine ⟨x0, x1, x2, c0, c1, c2, e0, e1, e2, fun who hw => ?_⟩
  rcases (by omega : who = 0 ∨ who = 1 ∨ who = 2) with rfl | rfl | rfl
  · exact ⟨x0, c0, by rw [e0]; rfl, s0.at_⟩
  · exact ⟨x1, c1, by rw [e1]; rfl, s1.at_⟩
  · exact ⟨x2, c2, by rw [e2]; rfl, s2.at_⟩
theorem oz_then {W W1 : World} {who : Nat} (hw : who < 3) {l : List Sl} (h : Oz w B p q b quota k (upB ls who l) ls v0 v1 v2 W) (hb : Below W.heap.size W W1) {y : Value} (ho : W1.ownsRow W.heap.size 58 2 y l.length (scx l)) :
    W1.there B 0 3 ∧ (([v0, v1, v2].set who y).toArray.all (·.oneCell') = true) ∧ Hid (∃ u0 u1 u2, Oz w B p q b quota k (upB ls who l) (upB ls who l) u0 u1 u2 (W1.setCells B 0 ([v0, v1, v2].set who y))) := by
  obtain ⟨s, x, F, v, vs, py, us, r, gm, bk, ⟨o0, o1, o2⟩, nB, a0, a1, a2⟩ := h
  have ltF : ∀ z, FB F q v b vs z → z < W.heap.size := fun z hz => (py.lt hz).1
  have bkl := bk.lt
  have bk1 := bk.later hb
  have oy : Ok3 B W1 y l := Ok3.of ho bkl
  have py1 := py.later hb
  have f1 : Bf (fun z => z = B) W1 (W1.setCells B 0 ([v0, v1, v2].set who y)) := Bf.sets (fun z => z = B) B rfl _ 0 W1
  have ay : Apv (FB F q v b vs) y := fun a n c z e ez h0 cc => by
    obtain ⟨a', c', e', sl, hx⟩ := owns_sl rfl ho
    have e2 : Value.slice a' l.length c' = .slice a n c := e'.symm.trans e
    injection e2 with e3 e4 e5
    subst e3
    have := hx z ez
    have := ltF _ cc
    omega
  have py2 : Py w (W1.setCells B 0 ([v0, v1, v2].set who y)) p F s q v x b quota vs (upB ls who l) :=
    ⟨py1.lz.other f1 (fun z hz e => nB.1 (by rw [← e]; exact .inl hz)) (fun z e => by rw [e]; exact nB.2), py1.bk.bf f1 (fun e => nB.1 (by rw [← e]; exact .inr (.inl rfl))), py1.bv.bf f1 (fun g hg e => nB.1 (by rw [← e]; exact .inr (.inr hg))), py1.ap, py1.nb⟩
  have p0 := o0.later hb
  have p1 := o1.later hb
  have p2 := o2.later hb
  have bkp : Blk (W1.setCells B 0 ([v0, v1, v2].set who y)) B ([v0, v1, v2].set who y) := bk1.put _ (by simp)
  have up : ∀ {y2 : Value} {l2 : List Sl}, Ok3 B W1 y2 l2 → Ok3 B (W1.setCells B 0 ([v0, v1, v2].set who y)) y2 l2 := fun o => o.sets (Nat.le_refl B) 0 _
  refine ⟨bk1.there, all_oneCell_toArray (fun u hu => ?_), ?_⟩
  · rcases List.mem_or_eq_of_mem_set hu with h | h
    · simp at h
      rcases h with rfl | rfl | rfl
      · exact o0.one
      · exact o1.one
      · exact o2.one
    · rw [h]; exact oy.one
  · rcases (by omega : who = 0 ∨ who = 1 ∨ who = 2) with rfl | rfl | rfl
    · exact ⟨y, v1, v2, s, x, F, v, vs, py2, us, r, gm, bkp, ⟨by rw [upB_same]; exact up oy, by rw [upB_other _ _ (by decide)]; exact up p1, by rw [upB_other _ _ (by decide)]; exact up p2⟩, nB, ay, a1, a2⟩
    · exact ⟨v0, y, v2, s, x, F, v, vs, py2, us, r, gm, bkp, ⟨by rw [upB_other _ _ (by decide)]; exact up p0, by rw [upB_same]; exact up oy, by rw [upB_other _ _ (by decide)]; exact up p2⟩, nB, a0, ay, a2⟩
    · exact ⟨v0, v1, y, s, x, F, v, vs, py2, us, r, gm, bkp, ⟨by rw [upB_other _ _ (by decide)]; exact up p0, by rw [upB_other _ _ (by decide)]; exact up p1, by rw [upB_same]; exact up oy⟩, nB, a0, a1, ay⟩
theorem oz_all {W : World} (h : Oz w B p q b quota k ls ls v0 v1 v2 W) (hk : k ≤ 256) : Calls Tryz.prog 20 #[.pointer (some ⟨b, 0, none⟩)] W fun e w' => AlR W ls e w' := by
  obtain ⟨s, x, F, v, vs, py, us, r, gm, -⟩ := h
  refine xall_core b ls W (fun u V hu hb => ?_)
  have hu' : noU (u : Int) = false := by unfold noU; simp; omega
  have hml := manyX_at 64 ls u (by omega)
  have hmm := gm.m
  have e1 : fiX ls (u : Int) 256 = (0, ls u) := by
    unfold fiX
    rw [if_neg (by rw [hu']; simp), Int.toNat_natCast, List.take_of_length_le (show (ls u).length ≤ (256 : Int).toNat by show _ ≤ 256; omega)]
  refine (xfirst_any w p q b quota s x ls F v vs (u : Int) 256 gm.g (Nat.le_trans gm.m (by omega)) V (py.later hb)).mono ?_
  rintro e w' ⟨y, he, ho, hb'⟩
  rw [e1] at he ho
  exact ⟨y, he, ho, hb'⟩
theorem oz_same {W W1 V : World} (hb : Below V.heap.size V W1) (hW : Oz w B p q b quota k ls ls v0 v1 v2 W1) {e : Ending} (ha : AlR W ls e V) : ∃ y0 y1 y2, e = .returned (.agg #[y0, y1, y2]) ∧ Calls Tryz.prog 19 #[.agg #[y0, y1, y2], .agg #[v0, v1, v2]] W1 fun e w' => e = .returned (.bool true) ∧ Below W1.heap.size W1 w' := by
  obtain ⟨y0, y1, y2, he, k0, k1, k2, -⟩ := ha
  obtain ⟨s, x, F, v, vs, py, us, r, gm, bk, ⟨o0, o1, o2⟩, -⟩ := hW
  exact ⟨y0, y1, y2, he, xsame_yes (k0.later hb) (k1.later hb) (k2.later hb) o0 o1 o2⟩
end
end Go.Proofs.YtjpaodepnacimaaGreatDoor
