/- What the laws lean on: calls of a set, tags by their numbers, the chapter's example. -/
import Derived.Test.YtdcimnmebgkmjaaDoorSoA
import Derived.Deep.CutBlock
namespace Go.Proofs.YtdcimnmebgkmjaaDoor
open Go.RowKit Go.Proofs.Fd Go.Proofs.Dk Go.Proofs.Lg
set_option maxRecDepth 20000

theorem hasX (w wr : World) (b n most k ep : Nat) (ah he : List Bs) (t : Bs) (hl : ah.length + he.length ≤ 4096) (h : Sx w wr b n most k ep ah he) :
    Calls Tryd.prog 24 #[.pointer (some ⟨b, 0, none⟩), .string (st t)] wr fun e w' => e = .returned (.bool (decide (t ∈ ah ++ he))) ∧ w' = wr := by
  obtain ⟨p, F, f, l, q, v, x, va, vh, s, hx⟩ := h
  exact shas_any b q ep most va vh ah he (by omega) (by omega) (st t) wr s.es
theorem epochX (w wr : World) (b n most k ep : Nat) (ah he : List Bs) (h : Sx w wr b n most k ep ah he) :
    Calls Tryd.prog 25 #[.pointer (some ⟨b, 0, none⟩)] wr fun e w' => e = .returned (.int .i64 (ep : Int)) ∧ w' = wr := by
  obtain ⟨p, F, f, l, q, v, x, va, vh, s, hx⟩ := h
  exact sepoch_any b q ep most va vh ah he wr s.es
theorem tagsX (w wr : World) (b n most k ep : Nat) (ah he : List Bs) (hl : ah.length + he.length ≤ 4096) (ht : ∀ t ∈ ah ++ he, t.length ≤ 2000) (h : Sx w wr b n most k ep ah he) :
    Calls Tryd.prog 26 #[.pointer (some ⟨b, 0, none⟩)] wr fun e w' => ∃ a c, e = .returned (.slice a (ah ++ he).length c) ∧ TxAt w' a (ah ++ he) ∧ Below wr.heap.size wr w' := by
  obtain ⟨p, F, f, l, q, v, x, va, vh, s, hx⟩ := h
  exact stags_any b q ep most va vh ah he (by omega) (by omega) ht wr s.es
theorem sadd_seen (w wr : World) (b n most k ep : Nat) (ah he : List Bs) (t : Bs) (ht : t.length = 16) (hm : t ∈ ah ++ he) (hl : ah.length + he.length ≤ 4096) (h : Hid (Sx w wr b n most k ep ah he)) :
    Calls Tryd.prog 23 #[.pointer (some ⟨b, 0, none⟩), .string (st t)] wr fun e w' => e = .returned (.int .i64 170) ∧ w' = wr := by
  have hs : (st t).size = 16 := by rw [st_size, ht]
  have HS : Hid _ := hasX w wr b n most k ep ah he t hl h.out
  rw [decide_eq_true hm] at HS
  obtain ⟨T, hT⟩ : ∃ T, st t = T := ⟨_, rfl⟩
  rw [hT] at HS hs ⊢
  clear hT h hm ht
  go_enter Tryd.func23, Tryd.ntmps23
  go_wp2_with fail
  refine Calls.mono HS.out ?_
  rintro e w1 ⟨rfl, rfl⟩
  clear HS
  go_wp2
  go_ret
  exact ⟨rfl, rfl⟩
set_option maxHeartbeats 1000000 in
theorem sadd_full (w wr : World) (b n most k ep : Nat) (ah he : List Bs) (t : Bs) (ht : t.length = 16) (hm : t ∉ ah ++ he) (hfull : most ≤ ah.length + he.length) (hl : ah.length + he.length ≤ 4096) (h : Hid (Sx w wr b n most k ep ah he)) :
    Calls Tryd.prog 23 #[.pointer (some ⟨b, 0, none⟩), .string (st t)] wr fun e w' => e = .returned (.int .i64 180) ∧ Below wr.heap.size wr w' := by
  have hs : (st t).size = 16 := by rw [st_size, ht]
  have HS : Hid _ := hasX w wr b n most k ep ah he t hl h.out
  rw [decide_eq_false hm] at HS
  obtain ⟨p, F, f, l, q, v, x, va, vh, s, hx⟩ := h.out
  have MN : Hid (∀ W, Below wr.heap.size wr W → Calls Tryd.prog 41 #[.pointer (some ⟨b, 1, none⟩)] W fun e w' => e = .returned (.int .i64 ((ah.length + he.length : Nat) : Int)) ∧ Below wr.heap.size wr w') := fun W hW => (emany_any b q ep most va vh ah he (by omega) (by omega) W (s.es.later hW)).mono fun _ _ ⟨e1, hb⟩ => ⟨e1, chain hW hb⟩
  have k4 := s.es.bk.c 4 _ rfl
  have k0 := s.es.bk.c 0 _ rfl
  obtain ⟨m, hmm⟩ : ∃ m, ah.length + he.length = m := ⟨_, rfl⟩
  rw [hmm] at MN hfull
  have g1 : (most : Int) ≤ (m : Int) := by omega
  obtain ⟨T, hT⟩ : ∃ T, st t = T := ⟨_, rfl⟩
  rw [hT] at HS hs ⊢
  clear hT hmm s h hx hm ht hl
  go_enter Tryd.func23, Tryd.ntmps23
  go_wp2_with fail
  refine Calls.mono HS.out ?_
  rintro e w1 ⟨rfl, rfl⟩
  clear HS
  go_wp2_with fail
  go_region_held3 (fun w' => w'.cell? ⟨b, 4, none⟩ = some (.int .i64 (most : Int)) ∧ Below w1.heap.size w1 w') (first | exact ⟨k4, (Below.refl _ _).drew⟩ | assumption | exact ⟨cell_later (by assumption) k4, by assumption⟩) (first | (go_at_call 41; refine Calls.mono (MN.out _ (by first | assumption | exact (Below.refl _ _).drew)) ?_; rintro e w2 ⟨rfl, hb2⟩))
  have BB : Hid (Below w1.heap.size w1 w2) := hb2
  clear hb2 MN k4
  go_wp2
  go_ret
  exact ⟨rfl, BB.out⟩
set_option maxHeartbeats 1000000 in
theorem srot_ok (w wr : World) (b n most k ep : Nat) (ah he : List Bs) (hep : ep ≤ 1000000) (hroom : 2 + k ≤ n / 2) (hk : Hid (Kh w)) (h : Hid (Sx w wr b n most k ep ah he)) :
    Calls Tryd.prog 21 #[.pointer (some ⟨b, 0, none⟩)] wr fun e w' => e = .returned (.int .i64 0) ∧ Sx w w' b n most (k + 1) (ep + 1) he [] := by
  have hl : (ben (ep + 1) 4).length = 4 := ben_len _ _
  have sn1 : sn (69 :: ben (ep + 1) 4) = 1 := by unfold sn; rw [List.length_cons, hl]
  have mr : may (69 :: ben (ep + 1) 4) = 0 := by unfold may; rw [List.length_cons, hl, if_neg (by decide), if_neg (by decide)]
  have ER : Hid (Calls Tryd.prog 40 #[.int .i64 ((ep : Int) + 1)] wr fun e w' => e = .returned (.string (st (69 :: ben (ep + 1) 4))) ∧ Below wr.heap.size wr w') := sepr_any (ep + 1) wr
  obtain ⟨p, F, f, l, q, v, x, va, vh, s, hx⟩ := h.out
  have WR : Hid (∀ W, Below wr.heap.size wr W → Calls Tryd.prog 39 #[.pointer (some ⟨b, 0, none⟩), .string (st (69 :: ben (ep + 1) 4))] W fun e w' => e = .returned (.int .i64 0) ∧ Sx w w' b n most (k + 1) (ep + 1) he []) := fun W hW =>
    (swrite_any w W p F n f l q v x b ep most va vh ah he (69 :: ben (ep + 1) 4) (ep + 1) he [] mr (by omega) (fun W' es => (etakeE_any b q ep most va vh ah he (by omega) W' es).mono fun _ _ ⟨e1, e2⟩ => ⟨e1, vh, _, e2⟩) hk (s.later hW)).mono fun _ _ ⟨e1, F', f', l', v', va', vh', s'⟩ => ⟨e1, p, F', f', l', q, v', _, va', vh', s', by
      show tkn 1 (x.ts ++ [69 :: ben (ep + 1) 4]) ≤ 1 + (k + 1)
      rw [tkn_app, sn1]
      have : tkn 1 x.ts ≤ 1 + k := hx
      omega⟩
  have k1 := s.es.bk.c 1 _ rfl
  have k0 := s.es.bk.c 0 _ rfl
  have g1 : ¬ (ep : Int) = 2147483647 := by omega
  have y1 : IntKind.i64.wrap ((ep : Int) + 1) = (ep : Int) + 1 := by rw [IntKind.wrap_i64]; omega
  obtain ⟨S, hS⟩ : ∃ S, st (69 :: ben (ep + 1) 4) = S := ⟨_, rfl⟩
  rw [hS] at ER WR
  clear hS s h hx sn1 mr hl
  go_enter Tryd.func21, Tryd.ntmps21
  go_wp2_with fail
  refine Calls.mono ER.out ?_
  rintro e w2 ⟨rfl, hb⟩
  have W3 : Hid _ := WR.out w2 hb
  clear WR ER hb
  go_wp2_with fail
  refine Calls.mono W3.out ?_
  rintro e w4 ⟨rfl, s4⟩
  have FF : Hid _ := s4
  clear s4 W3
  go_wp2
  go_ret
  exact ⟨rfl, FF.out⟩
theorem samong_is (x : Int) (N : Nat) (h0 : 0 < N) (h1 : N ≤ 1000) :
    ∃ m : Nat, m < N ∧ (∀ i : Nat, x = (i : Int) → i < N → m = i) ∧ ∀ w, Calls Tryd.prog 20 #[.int .i64 x, .int .i64 (N : Int)] w fun e w' => e = .returned (.int .i64 (m : Int)) ∧ w' = w := by
  have hN : (0 : Int) < (N : Int) := by omega
  have r1 := Int.tmod_lt_of_pos x hN
  have r2 := Int.lt_tmod_of_pos x hN
  obtain ⟨r, hr⟩ : ∃ r, Int.tmod x (N : Int) = r := ⟨_, rfl⟩
  rw [hr] at r1 r2
  have s1 := Int.tmod_lt_of_pos (r + (N : Int)) hN
  have s2 := Int.tmod_nonneg (N : Int) (show 0 ≤ r + (N : Int) by omega)
  obtain ⟨m, hm⟩ : ∃ m : Nat, Int.tmod (r + (N : Int)) (N : Int) = (m : Int) := ⟨(Int.tmod (r + (N : Int)) (N : Int)).toNat, by omega⟩
  rw [hm] at s1
  have z1 : IntKind.i64.wrap (Int.tmod x (N : Int)) = r := by rw [hr, IntKind.wrap_i64]; omega
  have z2 : IntKind.i64.wrap (r + (N : Int)) = r + (N : Int) := by rw [IntKind.wrap_i64]; omega
  have z3 : IntKind.i64.wrap (Int.tmod (r + (N : Int)) (N : Int)) = (m : Int) := by rw [hm, IntKind.wrap_i64]; omega
  have hN2 : ¬ (N : Int) = 0 := by omega
  have hi : ∀ i : Nat, x = (i : Int) → i < N → m = i := fun i e hi => by
    have e1 : r = (i : Int) := by rw [← hr, e, Int.tmod_eq_of_lt (by omega) (by omega)]
    have e2 : Int.tmod (r + (N : Int)) (N : Int) = (i : Int) := by
      rw [e1, Int.tmod_eq_emod_of_nonneg (by omega), Int.add_emod_right, Int.emod_eq_of_lt (by omega) (by omega)]
    rw [hm] at e2
    omega
  refine ⟨m, by omega, hi, fun w => ?_⟩
  clear r1 r2 s1 s2 h0 h1 hN hi
  go_enter Tryd.func20, Tryd.ntmps20
  go_wp2
  go_ret
  exact ⟨rfl, rfl⟩
theorem samong_nat (i N : Nat) (hi : i < N) (h1 : N ≤ 1000) (w : World) : Calls Tryd.prog 20 #[.int .i64 (i : Int), .int .i64 (N : Int)] w fun e w' => e = .returned (.int .i64 (i : Int)) ∧ w' = w := by
  obtain ⟨m, -, h2, h3⟩ := samong_is (i : Int) N (by omega) h1
  obtain rfl := h2 i rfl hi
  exact h3 w
/-- The law's tag of a number. -/
def tl : Bs := [105, 120, 116, 101, 101, 110, 32, 98, 121, 116, 101, 115, 32, 33, 33]
def tg (m : Nat) : Bs := UInt8.ofNat (97 + m) :: tl
theorem tg_len (m : Nat) : (tg m).length = 16 := rfl
theorem tg_inj {i j : Nat} (hi : i < 20) (hj : j < 20) (h : tg i = tg j) : i = j := by
  have e : UInt8.ofNat (97 + i) = UInt8.ofNat (97 + j) := by unfold tg at h; injection h
  have e2 := congrArg UInt8.toNat e
  rw [UInt8.toNat_ofNat', UInt8.toNat_ofNat'] at e2
  omega
set_option maxHeartbeats 1000000 in
theorem stag_any (m : Nat) (hm : m < 20) (x : Int) (AM : Hid (∀ w, Calls Tryd.prog 20 #[.int .i64 x, .int .i64 20] w fun e w' => e = .returned (.int .i64 (m : Int)) ∧ w' = w)) (w : World) :
    Calls Tryd.prog 22 #[.int .i64 x] w fun e w' => e = .returned (.string (st (tg m))) ∧ Below w.heap.size w w' := by
  have HP : Hid ((⟨#[UInt8.ofNat (97 + m)]⟩ : ByteArray) ++ ⟨#[105, 120, 116, 101, 101, 110, 32, 98, 121, 116, 101, 115, 32, 33, 33]⟩ = st (tg m)) := st_app [UInt8.ofNat (97 + m)] tl
  have y1 : IntKind.i64.wrap (97 + (m : Int)) = 97 + (m : Int) := by rw [IntKind.wrap_i64]; omega
  have y2 : IntKind.u8.wrap (97 + (m : Int)) = ((UInt8.ofNat (97 + m)).toNat : Int) := by
    rw [UInt8.toNat_ofNat', IntKind.wrap_u8]
    omega
  have BA : BytesAt (w.alloc (.cells #[.int .u8 ((UInt8.ofNat (97 + m)).toNat : Int)] 5)) w.heap.size [UInt8.ofNat (97 + m)] := fun j hj => by
    refine ⟨?_, by simp [go_sem]⟩
    rw [World.cell?_alloc_new]
    match j, hj with
    | 0, _ => rfl
  have BD : BytesAt (w.alloc (.cells #[.int .u8 ((UInt8.ofNat (97 + m)).toNat : Int)] 5)).drew w.heap.size [UInt8.ofNat (97 + m)] := BA
  have CV := BD.string (cap := 1) (n := 1) rfl
  have EX : (⟨#[115, 105, 120, 116, 101, 101, 110, 32, 98, 121, 116, 101, 115, 32, 33, 33]⟩ : ByteArray).extract 1 16 = ⟨#[105, 120, 116, 101, 101, 110, 32, 98, 121, 116, 101, 115, 32, 33, 33]⟩ := rfl
  have NB : Hid (Below w.heap.size w (w.alloc (.cells #[.int .u8 ((UInt8.ofNat (97 + m)).toNat : Int)] 5)).drew) := (nb _ _).drew
  obtain ⟨c, hc⟩ : ∃ c, UInt8.ofNat (97 + m) = c := ⟨_, rfl⟩
  rw [hc] at y2 CV NB HP
  clear hc BA BD hm
  go_enter Tryd.func22, Tryd.ntmps22
  go_wp2_with fail
  go_region_with (go_at_call 20; refine Calls.mono (AM.out _) ?_; rintro e w1 ⟨rfl, rfl⟩)
  all_goals
    go_wp2
    go_ret
    exact ⟨by rw [← HP.out]; rfl, NB.out⟩
end Go.Proofs.YtdcimnmebgkmjaaDoor

/- The chapter's example, and SeenEpochs. -/
namespace Go.Proofs.YtdcimnmebgkmjaaDoor
open Go.RowKit Go.Proofs.Fd Go.Proofs.Dk Go.Proofs.Lg
set_option maxRecDepth 20000

/-- The example's tag. -/
def ts6 : Bs := [115, 105, 120, 116, 101, 101, 110, 32, 98, 121, 116, 101, 115, 32, 33, 33]
set_option maxHeartbeats 4000000 in
theorem sworks_any (w : World) (hk : Hid (Kh w)) : Calls Tryd.prog 18 #[] w fun e w' => e = .returned (.bool true) ∧ Below w.heap.size w w' := by
  have NW : Hid _ := newL w w 40 (by decide) (by decide) (Below.refl _ _)
  have OP : Hid (∀ p F W, Dl w W p F (up 40 zs []) → Calls Tryd.prog 19 #[.pointer (some ⟨p, 0, none⟩), .int .i64 10] W fun e w' => ∃ b, e = .returned (.tuple #[.pointer (some ⟨b, 0, none⟩), .int .i64 0]) ∧ Sx w w' b 40 10 0 0 [] []) := fun p F W d => sopen_new w W p F 40 10 (by decide) (by decide) (by decide) (by decide) hk d
  have A1 : Hid (∀ b W, Sx w W b 40 10 0 0 [] [] → Calls Tryd.prog 23 #[.pointer (some ⟨b, 0, none⟩), .string ⟨#[115, 105, 120, 116, 101, 101, 110, 32, 98, 121, 116, 101, 115, 32, 33, 33]⟩] W fun e w' => e = .returned (.int .i64 0) ∧ Sx w w' b 40 10 1 0 [] [ts6]) := fun b W s => sadd_ok w W b 40 10 0 0 [] [] ts6 rfl (by simp) (by decide) (by decide) (by decide) hk s
  have A2 : Hid (∀ b W, Sx w W b 40 10 1 0 [] [ts6] → Calls Tryd.prog 23 #[.pointer (some ⟨b, 0, none⟩), .string ⟨#[115, 105, 120, 116, 101, 101, 110, 32, 98, 121, 116, 101, 115, 32, 33, 33]⟩] W fun e w' => e = .returned (.int .i64 170) ∧ w' = W) := fun b W s => sadd_seen w W b 40 10 1 0 [] [ts6] ts6 rfl (by simp) (by decide) s
  have R1 : Hid (∀ b W, Sx w W b 40 10 1 0 [] [ts6] → Calls Tryd.prog 21 #[.pointer (some ⟨b, 0, none⟩)] W fun e w' => e = .returned (.int .i64 0) ∧ Sx w w' b 40 10 2 1 [ts6] []) := fun b W s => srot_ok w W b 40 10 1 0 [] [ts6] (by decide) (by decide) hk s
  have H1 : Hid (∀ b W, Sx w W b 40 10 2 1 [ts6] [] → Calls Tryd.prog 24 #[.pointer (some ⟨b, 0, none⟩), .string ⟨#[115, 105, 120, 116, 101, 101, 110, 32, 98, 121, 116, 101, 115, 32, 33, 33]⟩] W fun e w' => e = .returned (.bool true) ∧ w' = W) := fun b W s => hasX w W b 40 10 2 1 [ts6] [] ts6 (by decide) s
  have R2 : Hid (∀ b W, Sx w W b 40 10 2 1 [ts6] [] → Calls Tryd.prog 21 #[.pointer (some ⟨b, 0, none⟩)] W fun e w' => e = .returned (.int .i64 0) ∧ Sx w w' b 40 10 3 2 [] []) := fun b W s => srot_ok w W b 40 10 2 1 [ts6] [] (by decide) (by decide) hk s
  have A3 : Hid (∀ b W, Sx w W b 40 10 3 2 [] [] → Calls Tryd.prog 23 #[.pointer (some ⟨b, 0, none⟩), .string ⟨#[115, 105, 120, 116, 101, 101, 110, 32, 98, 121, 116, 101, 115, 32, 33, 33]⟩] W fun e w' => e = .returned (.int .i64 0) ∧ Sx w w' b 40 10 4 2 [] [ts6]) := fun b W s => sadd_ok w W b 40 10 3 2 [] [] ts6 rfl (by simp) (by decide) (by decide) (by decide) hk s
  have E1 : Hid (∀ b W, Sx w W b 40 10 4 2 [] [ts6] → Calls Tryd.prog 25 #[.pointer (some ⟨b, 0, none⟩)] W fun e w' => e = .returned (.int .i64 2) ∧ w' = W) := fun b W s => epochX w W b 40 10 4 2 [] [ts6] s
  clear hk
  go_enter Tryd.func18, Tryd.ntmps18
  go_wp2_with fail
  refine Calls.mono NW.out ?_
  rintro e w1 ⟨p, F, rfl, I1, -, -⟩
  have J1 : Hid (Dl w w1 p F (up 40 zs [])) := I1
  clear NW I1
  go_wp2_with fail
  refine Calls.mono (OP.out p F w1 J1.out) ?_
  rintro e w2 ⟨b, rfl, s2⟩
  have J2 : Hid _ := s2
  clear OP J1 s2
  go_wp2_with fail
  refine Calls.mono (A1.out b w2 J2.out) ?_
  rintro e w3 ⟨rfl, s3⟩
  have J3 : Hid _ := s3
  clear A1 J2 s3
  go_wp2_with fail
  refine Calls.mono (A2.out b w3 J3.out) ?_
  rintro e w4 ⟨rfl, rfl⟩
  clear A2
  go_wp2_with fail
  refine Calls.mono (R1.out b w4 J3.out) ?_
  rintro e w5 ⟨rfl, s5⟩
  have J5 : Hid _ := s5
  clear R1 J3 s5
  go_wp2_with fail
  refine Calls.mono (H1.out b w5 J5.out) ?_
  rintro e w6 ⟨rfl, rfl⟩
  clear H1
  go_wp2_with fail
  refine Calls.mono (R2.out b w6 J5.out) ?_
  rintro e w7 ⟨rfl, s7⟩
  have J7 : Hid _ := s7
  clear R2 J5 s7
  go_wp2_with fail
  refine Calls.mono (A3.out b w7 J7.out) ?_
  rintro e w8 ⟨rfl, s8⟩
  have J8 : Hid _ := s8
  clear A3 J7 s8
  go_wp2_with fail
  refine Calls.mono (E1.out b w8 J8.out) ?_
  rintro e w9 ⟨rfl, rfl⟩
  have BB : Hid (Below w.heap.size w w9) := Sx.below J8.out
  clear E1 J8
  go_wp2
  go_ret
  exact ⟨rfl, BB.out⟩
set_option maxHeartbeats 4000000 in
theorem SeenEpochs_walk (i0 i1 : Int) (w : World) (hk : Hid (Kh w)) :
    Calls Tryd.prog 5 #[.int .i64 i0, .int .i64 i1] w fun e w' => e = .returned (.bool true) ∧ Below w.heap.size w w' := by
  obtain ⟨m, hm, -, AM0⟩ := samong_is i0 20 (by decide) (by decide)
  obtain ⟨a, ha, -, AM1⟩ := samong_is i1 10 (by decide) (by decide)
  have AM : Hid (∀ W, Calls Tryd.prog 20 #[.int .i64 i1, .int .i64 10] W fun e w' => e = .returned (.int .i64 (a : Int)) ∧ w' = W) := AM1
  have TG : Hid (∀ W, Calls Tryd.prog 22 #[.int .i64 i0] W fun e w' => e = .returned (.string (st (tg m))) ∧ Below W.heap.size W w') := stag_any m hm i0 AM0
  have NW : Hid _ := newL w w 60 (by decide) (by decide) (Below.refl _ _)
  have OP : Hid (∀ p F W, Dl w W p F (up 60 zs []) → Calls Tryd.prog 19 #[.pointer (some ⟨p, 0, none⟩), .int .i64 100] W fun e w' => ∃ b, e = .returned (.tuple #[.pointer (some ⟨b, 0, none⟩), .int .i64 0]) ∧ Sx w w' b 60 100 0 0 [] []) := fun p F W d => sopen_new w W p F 60 100 (by decide) (by decide) (by decide) (by decide) hk d
  obtain ⟨t, ht⟩ : ∃ t, tg m = t := ⟨_, rfl⟩
  have htl : t.length = 16 := by rw [← ht]; rfl
  obtain ⟨T, hT⟩ : ∃ T, st t = T := ⟨_, rfl⟩
  have AD : Hid (∀ b k ep W, k ≤ 20 → Sx w W b 60 100 k ep [] [] → Calls Tryd.prog 23 #[.pointer (some ⟨b, 0, none⟩), .string T] W fun e w' => e = .returned (.int .i64 0) ∧ Sx w w' b 60 100 (k + 1) ep [] [t]) := fun b k ep W hk' s => by
    rw [← hT]; exact sadd_ok w W b 60 100 k ep [] [] t htl (by simp) (by decide) (by decide) (by omega) hk s
  have AS : Hid (∀ b k ep W, Sx w W b 60 100 k ep [t] [] → Calls Tryd.prog 23 #[.pointer (some ⟨b, 0, none⟩), .string T] W fun e w' => e = .returned (.int .i64 170) ∧ w' = W) := fun b k ep W s => by
    rw [← hT]; exact sadd_seen w W b 60 100 k ep [t] [] t htl (by simp) (by simp) s
  have RO : Hid (∀ b k ep W ah he, k ≤ 20 → ep ≤ 100 → Sx w W b 60 100 k ep ah he → Calls Tryd.prog 21 #[.pointer (some ⟨b, 0, none⟩)] W fun e w' => e = .returned (.int .i64 0) ∧ Sx w w' b 60 100 (k + 1) (ep + 1) he []) := fun b k ep W ah he hk' he' s => srot_ok w W b 60 100 k ep ah he (by omega) (by omega) hk s
  have HA : Hid (∀ b k ep W ah he z, ah.length + he.length ≤ 4096 → decide (t ∈ ah ++ he) = z → Sx w W b 60 100 k ep ah he → Calls Tryd.prog 24 #[.pointer (some ⟨b, 0, none⟩), .string T] W fun e w' => e = .returned (.bool z) ∧ w' = W) := fun b k ep W ah he z h1 h2 s => by
    rw [← hT, ← h2]; exact hasX w W b 60 100 k ep ah he t h1 s
  rw [ht, hT] at TG
  have HK : Hid (∀ W, Below w.heap.size w W → Kh W) := fun W hb => hk.out.later hb
  have m1 : Hid (decide (t ∈ [] ++ [t]) = true ∧ decide (t ∈ [t] ++ []) = true ∧ decide (t ∈ ([] : List Bs) ++ []) = false) := ⟨by simp, by simp, by simp⟩
  clear AM0 AM1 ht htl hT hm hk
  go_enter Tryd.func5, Tryd.ntmps5
  go_wp2_with fail
  refine Calls.mono NW.out ?_
  rintro e w1 ⟨p, F, rfl, I1, -, -⟩
  have J1 : Hid (Dl w w1 p F (up 60 zs [])) := I1
  clear NW I1
  go_wp2_with fail
  refine Calls.mono (sworks_any w1 (HK.out _ J1.out.below)) ?_
  rintro e w2 ⟨rfl, hb⟩
  have J2 : Hid _ := J1.out.later hb
  clear J1 hb HK
  go_wp2_with fail
  refine Calls.mono (OP.out p F w2 J2.out) ?_
  rintro e w3 ⟨b, rfl, s3⟩
  have J3 : Hid _ := s3
  clear OP J2 s3
  go_wp2_with fail
  refine Calls.mono (AM.out _) ?_
  rintro e w4 ⟨rfl, rfl⟩
  clear AM
  go_wp2
  go_loopw [37] (fun i wr => ∃ k : Nat, k ≤ a ∧ i = .int .i64 (k : Int) ∧ Hid (Sx w wr b 60 100 k k [] [])) (fun i _ => a - (intOf i).toNat)
  case atStart => exact ⟨0, Nat.zero_le _, rfl, J3.out⟩
  case round =>
    obtain ⟨k, hka, rfl, J⟩ := hrel
    clear J3
    by_cases hlt : k < a
    · have g1 : (k : Int) < (a : Int) := by omega
      have R1 : Hid _ := RO.out b k k wr [] [] (by omega) (by omega) J.out
      clear J
      go_wp2_with fail
      refine Calls.mono R1.out ?_
      rintro e w5 ⟨rfl, s5⟩
      have J5 : Hid _ := s5
      clear R1 s5
      go_wp2
      go_roundw
      case rel => exact ⟨k + 1, by omega, rfl, J5.out⟩
      case measure => simp [intOf]; omega
    · obtain rfl : k = a := by omega
      have g1 : ¬ (k : Int) < (k : Int) := by omega
      go_wp2_with fail
      refine Calls.mono (TG.out _) ?_
      rintro e w5 ⟨rfl, hb⟩
      have J5 : Hid _ := Sx.later J.out hb
      clear J TG hb g1
      go_wp2
      go_loopw [45] (fun i wr => ∃ j : Nat, j ≤ 2 ∧ i = .int .i64 (j : Int) ∧ Hid (Sx w wr b 60 100 (k + 3 * j) (k + 2 * j) [] [])) (fun i _ => 2 - (intOf i).toNat)
      case atStart => exact ⟨0, Nat.zero_le _, rfl, J5.out⟩
      case round =>
        obtain ⟨j, hj, rfl, J⟩ := hrel
        clear J5
        by_cases hlt : j < 2
        · have g1 : (j : Int) < 2 := by omega
          have X1 : Hid _ := AD.out b (k + 3 * j) (k + 2 * j) wr (by omega) J.out
          clear J AD
          go_wp2_with fail
          refine Calls.mono X1.out ?_
          rintro e w6 ⟨rfl, s6⟩
          have J6 : Hid _ := s6
          clear X1 s6
          have X2 : Hid _ := HA.out b _ _ w6 [] [t] true (by simp) m1.out.1 J6.out
          go_wp2_with fail
          refine Calls.mono X2.out ?_
          rintro e w7 ⟨rfl, rfl⟩
          clear X2
          have X3 : Hid _ := RO.out b _ _ w7 [] [t] (by omega) (by omega) J6.out
          clear J6
          go_wp2_with fail
          refine Calls.mono X3.out ?_
          rintro e w8 ⟨rfl, s8⟩
          have J8 : Hid _ := s8
          clear X3 s8
          have X4 : Hid _ := HA.out b _ _ w8 [t] [] true (by simp) m1.out.2.1 J8.out
          go_wp2_with fail
          refine Calls.mono X4.out ?_
          rintro e w9 ⟨rfl, rfl⟩
          clear X4
          have X5 : Hid _ := AS.out b _ _ w9 J8.out
          clear AS
          go_wp2_with fail
          refine Calls.mono X5.out ?_
          rintro e w10 ⟨rfl, rfl⟩
          clear X5
          have X6 : Hid _ := RO.out b _ _ w10 [t] [] (by omega) (by omega) J8.out
          clear J8 RO
          go_wp2_with fail
          refine Calls.mono X6.out ?_
          rintro e w11 ⟨rfl, s11⟩
          have J11 : Hid _ := s11
          clear X6 s11
          have X7 : Hid _ := HA.out b _ _ w11 [] [] false (by simp) m1.out.2.2 J11.out
          clear HA
          go_wp2_with fail
          refine Calls.mono X7.out ?_
          rintro e w12 ⟨rfl, rfl⟩
          clear X7
          go_wp2
          go_roundw
          case rel => exact ⟨j + 1, by omega, rfl, J11.out⟩
          case measure => simp [intOf]; omega
        · obtain rfl : j = 2 := by omega
          have E1 : Hid _ := epochX w wr b 60 100 _ _ [] [] J.out
          have G1 : Hid _ := tagsX w wr b 60 100 _ _ [] [] (by simp) (by simp) J.out
          have y1 : IntKind.i64.wrap ((k : Int) + 4) = (k : Int) + 4 := by rw [IntKind.wrap_i64]; omega
          have y2 : (((k + 2 * 2 : Nat) : Nat) : Int) = (k : Int) + 4 := by omega
          rw [y2] at E1
          have BB : Hid (Below w.heap.size w wr) := Sx.below J.out
          clear J y2
          go_wp2_with fail
          refine Calls.mono E1.out ?_
          rintro e w6 ⟨rfl, rfl⟩
          clear E1
          go_wp2_with fail
          refine Calls.mono G1.out ?_
          rintro e w7 ⟨a7, c7, rfl, -, hb⟩
          have FF : Hid (Below w.heap.size w w7) := chain BB.out hb
          clear G1 hb BB
          go_wp2
          go_ret
          exact ⟨rfl, FF.out⟩
end Go.Proofs.YtdcimnmebgkmjaaDoor

/- SeenFull. -/
namespace Go.Proofs.YtdcimnmebgkmjaaDoor
open Go.RowKit Go.Proofs.Fd Go.Proofs.Dk Go.Proofs.Lg
set_option maxRecDepth 20000

/-- The first tags. -/
def tgs (j : Nat) : List Bs := (List.range j).map tg
theorem tgs_len (j : Nat) : (tgs j).length = j := by simp [tgs]
theorem tgs_succ (j : Nat) : tgs (j + 1) = tgs j ++ [tg j] := by simp [tgs, List.range_succ]
theorem tgs_not {i j : Nat} (hi : i < 20) (hj : j ≤ i) : tg i ∉ tgs j := fun c => by
  obtain ⟨x, hx, e⟩ := List.mem_map.1 c
  have hx' : x < j := List.mem_range.1 hx
  have := tg_inj (by omega) hi e
  omega
set_option maxHeartbeats 4000000 in
theorem SeenFull_walk (i0 : Int) (w : World) (hk : Hid (Kh w)) :
    Calls Tryd.prog 6 #[.int .i64 i0] w fun e w' => e = .returned (.bool true) ∧ Below w.heap.size w w' := by
  obtain ⟨a, ha, -, AM1⟩ := samong_is i0 12 (by decide) (by decide)
  have AM : Hid (∀ W, Calls Tryd.prog 20 #[.int .i64 i0, .int .i64 12] W fun e w' => e = .returned (.int .i64 (a : Int)) ∧ w' = W) := AM1
  have TG : Hid (∀ (i : Nat) (y : Int) W, y = (i : Int) → i < 20 → Calls Tryd.prog 22 #[.int .i64 y] W fun e w' => e = .returned (.string (st (tg i))) ∧ Below W.heap.size W w') := fun i y W e hi => by
    rw [e]
    exact stag_any i hi (i : Int) (fun w => samong_nat i 20 hi (by decide) w) W
  have NW : Hid _ := newL w w 120 (by decide) (by decide) (Below.refl _ _)
  obtain ⟨most, hmost⟩ : ∃ most, 1 + a = most := ⟨_, rfl⟩
  have y0 : (1 : Int) + (a : Int) = (most : Int) := by omega
  have hm1 : 1 ≤ most := by omega
  have hm2 : most ≤ 12 := by omega
  have OP : Hid (∀ p F W, Dl w W p F (up 120 zs []) → Calls Tryd.prog 19 #[.pointer (some ⟨p, 0, none⟩), .int .i64 (most : Int)] W fun e w' => ∃ b, e = .returned (.tuple #[.pointer (some ⟨b, 0, none⟩), .int .i64 0]) ∧ Sx w w' b 120 most 0 0 [] []) := fun p F W d => sopen_new w W p F 120 most (by decide) (by decide) hm1 (by omega) hk d
  have AD : Hid (∀ b k ep W i, i < most → k ≤ 40 → Sx w W b 120 most k ep [] (tgs i) → Calls Tryd.prog 23 #[.pointer (some ⟨b, 0, none⟩), .string (st (tg i))] W fun e w' => e = .returned (.int .i64 0) ∧ Sx w w' b 120 most (k + 1) ep [] (tgs (i + 1))) := fun b k ep W i hi hk' s => by
    have := sadd_ok w W b 120 most k ep [] (tgs i) (tg i) (tg_len i) (by rw [List.nil_append]; exact tgs_not (by omega) (Nat.le_refl _)) (by rw [tgs_len]; simpa using hi) (by omega) (by omega) hk s
    rw [← tgs_succ] at this
    exact this
  have AF : Hid (∀ b k ep W i, most ≤ i → i < 20 → Sx w W b 120 most k ep [] (tgs most) → Calls Tryd.prog 23 #[.pointer (some ⟨b, 0, none⟩), .string (st (tg i))] W fun e w' => e = .returned (.int .i64 180) ∧ Sx w w' b 120 most k ep [] (tgs most)) := fun b k ep W i hi hi2 s =>
    (sadd_full w W b 120 most k ep [] (tgs most) (tg i) (tg_len i) (by rw [List.nil_append]; exact tgs_not hi2 hi) (by rw [tgs_len]; simp) (by rw [tgs_len]; simp; omega) s).mono fun _ _ ⟨e1, hb⟩ => ⟨e1, Sx.later s hb⟩
  have AG : Hid (∀ b k ep W, Sx w W b 120 most k ep (tgs most) [] → Calls Tryd.prog 23 #[.pointer (some ⟨b, 0, none⟩), .string (st (tg most))] W fun e w' => e = .returned (.int .i64 180) ∧ Sx w w' b 120 most k ep (tgs most) []) := fun b k ep W s =>
    (sadd_full w W b 120 most k ep (tgs most) [] (tg most) (tg_len most) (by rw [List.append_nil]; exact tgs_not (by omega) (Nat.le_refl _)) (by rw [tgs_len]; simp) (by rw [tgs_len]; simp; omega) s).mono fun _ _ ⟨e1, hb⟩ => ⟨e1, Sx.later s hb⟩
  have AH : Hid (∀ b k ep W, k ≤ 40 → Sx w W b 120 most k ep [] [] → Calls Tryd.prog 23 #[.pointer (some ⟨b, 0, none⟩), .string (st (tg most))] W fun e w' => e = .returned (.int .i64 0) ∧ Sx w w' b 120 most (k + 1) ep [] [tg most]) := fun b k ep W hk' s =>
    sadd_ok w W b 120 most k ep [] [] (tg most) (tg_len most) (by simp) (by simp; omega) (by omega) (by omega) hk s
  have RO : Hid (∀ b k ep W ah he, k ≤ 40 → ep ≤ 100 → Sx w W b 120 most k ep ah he → Calls Tryd.prog 21 #[.pointer (some ⟨b, 0, none⟩)] W fun e w' => e = .returned (.int .i64 0) ∧ Sx w w' b 120 most (k + 1) (ep + 1) he []) := fun b k ep W ah he hk' he' s => srot_ok w W b 120 most k ep ah he (by omega) (by omega) hk s
  have HK : Hid (∀ W, Below w.heap.size w W → Kh W) := fun W hb => hk.out.later hb
  have y3 : IntKind.i64.wrap ((most : Int) + 2) = (most : Int) + 2 := by rw [IntKind.wrap_i64]; omega
  clear AM1 hk
  go_enter Tryd.func6, Tryd.ntmps6
  go_wp2_with fail
  refine Calls.mono NW.out ?_
  rintro e w1 ⟨p, F, rfl, I1, -, -⟩
  have J1 : Hid (Dl w w1 p F (up 120 zs [])) := I1
  clear NW I1
  go_wp2_with fail
  refine Calls.mono (sworks_any w1 (HK.out _ J1.out.below)) ?_
  rintro e w2 ⟨rfl, hb⟩
  have J2 : Hid _ := J1.out.later hb
  clear J1 hb HK
  go_wp2_with fail
  refine Calls.mono (AM.out _) ?_
  rintro e w4 ⟨rfl, rfl⟩
  clear AM
  go_wp2_with fail
  refine Calls.mono (OP.out p F w4 J2.out) ?_
  rintro e w3 ⟨b, rfl, s3⟩
  have J3 : Hid _ := s3
  clear OP J2 s3 y0 hmost ha
  go_wp2
  go_loopw [39] (fun i wr => ∃ (j k : Nat), j ≤ most + 2 ∧ i = .int .i64 (j : Int) ∧ k ≤ j ∧ Hid (Sx w wr b 120 most k 0 [] (tgs (min j most)))) (fun i _ => most + 2 - (intOf i).toNat)
  case atStart => exact ⟨0, 0, Nat.zero_le _, rfl, Nat.zero_le _, (by rw [Nat.zero_min]; exact J3.out)⟩
  case round =>
    obtain ⟨j, k, hj, rfl, hkj, J⟩ := hrel
    clear J3
    by_cases hlt : j < most + 2
    · have g1 : (j : Int) < (most : Int) + 2 := by omega
      by_cases hin : j < most
      · have g2 : (j : Int) < (most : Int) := by omega
        rw [show min j most = j by omega] at J
        go_wp2_with fail
        refine Calls.mono (TG.out j _ _ rfl (by omega)) ?_
        rintro e w5 ⟨rfl, hb⟩
        have X1 : Hid _ := AD.out b k 0 w5 j hin (by omega) (Sx.later J.out hb)
        clear hb J TG AF AG AH
        obtain ⟨T, hT⟩ : ∃ T, st (tg j) = T := ⟨_, rfl⟩
        rw [hT] at X1 ⊢
        clear hT
        go_wp2_with fail
        refine Calls.mono X1.out ?_
        rintro e w6 ⟨rfl, s6⟩
        have J6 : Hid _ := s6
        clear X1 s6
        go_wp2
        go_roundw
        case rel => exact ⟨j + 1, k + 1, by omega, rfl, by omega, (by rw [show min (j + 1) most = j + 1 by omega]; exact J6.out)⟩
        case measure => simp [intOf]; omega
      · have g2 : ¬ (j : Int) < (most : Int) := by omega
        rw [show min j most = most by omega] at J
        go_wp2_with fail
        refine Calls.mono (TG.out j _ _ rfl (by omega)) ?_
        rintro e w5 ⟨rfl, hb⟩
        have X1 : Hid _ := AF.out b k 0 w5 j (by omega) (by omega) (Sx.later J.out hb)
        clear hb J TG AD AG AH
        obtain ⟨T, hT⟩ : ∃ T, st (tg j) = T := ⟨_, rfl⟩
        rw [hT] at X1 ⊢
        clear hT
        go_wp2_with fail
        refine Calls.mono X1.out ?_
        rintro e w6 ⟨rfl, s6⟩
        have J6 : Hid _ := s6
        clear X1 s6
        go_wp2
        go_roundw
        case rel => exact ⟨j + 1, k, by omega, rfl, by omega, (by rw [show min (j + 1) most = most by omega]; exact J6.out)⟩
        case measure => simp [intOf]; omega
    · have g1 : ¬ (j : Int) < (most : Int) + 2 := by omega
      rw [show min j most = most by omega] at J
      have X1 : Hid _ := RO.out b k 0 wr [] (tgs most) (by omega) (by omega) J.out
      clear J AD AF
      go_wp2_with fail
      refine Calls.mono X1.out ?_
      rintro e w6 ⟨rfl, s6⟩
      have J6 : Hid _ := s6
      clear X1 s6
      go_wp2_with fail
      refine Calls.mono (TG.out most _ _ rfl (by omega)) ?_
      rintro e w7 ⟨rfl, hb⟩
      have X2 : Hid _ := AG.out b _ _ w7 (Sx.later J6.out hb)
      clear hb J6 AG
      obtain ⟨T, hT⟩ : ∃ T, st (tg most) = T := ⟨_, rfl⟩
      have TG2 : Hid (∀ W, Calls Tryd.prog 22 #[.int .i64 (most : Int)] W fun e w' => e = .returned (.string T) ∧ Below W.heap.size W w') := fun W => by rw [← hT]; exact TG.out most _ W rfl (by omega)
      rw [hT] at X2 AH ⊢
      clear hT TG
      go_wp2_with fail
      refine Calls.mono X2.out ?_
      rintro e w8 ⟨rfl, s8⟩
      have X3 : Hid _ := RO.out b _ _ w8 (tgs most) [] (by omega) (by omega) s8
      clear X2 s8 RO
      go_wp2_with fail
      refine Calls.mono X3.out ?_
      rintro e w9 ⟨rfl, s9⟩
      have J9 : Hid _ := s9
      clear X3 s9
      go_wp2_with fail
      refine Calls.mono (TG2.out _) ?_
      rintro e w10 ⟨rfl, hb⟩
      have X4 : Hid _ := AH.out b _ _ w10 (by omega) (Sx.later J9.out hb)
      clear hb J9 AH TG2
      go_wp2_with fail
      refine Calls.mono X4.out ?_
      rintro e w11 ⟨rfl, s11⟩
      have G1 : Hid _ := tagsX w w11 b 120 most _ _ [] [tg most] (by simp) (by intro t ht; simp at ht; subst ht; rw [tg_len]; decide) s11
      have BB : Hid (Below w.heap.size w w11) := Sx.below s11
      clear X4 s11
      go_wp2_with fail
      refine Calls.mono G1.out ?_
      rintro e w12 ⟨a7, c7, rfl, -, hb⟩
      have FF : Hid (Below w.heap.size w w12) := chain BB.out hb
      clear G1 hb BB
      go_wp2
      go_ret
      exact ⟨rfl, FF.out⟩
end Go.Proofs.YtdcimnmebgkmjaaDoor
