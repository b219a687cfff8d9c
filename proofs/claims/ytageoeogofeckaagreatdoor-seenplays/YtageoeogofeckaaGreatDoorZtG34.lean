/- Parts: SnE, SnF, SyJ, SnG. -/
import Derived.Test.YtageoeogofeckaaGreatDoorZtG26
import Derived.Test.YtageoeogofeckaaGreatDoorZtG33
import Derived.Test.YtageoeogofeckaaGreatDoorZtG27
import Derived.Test.YtageoeogofeckaaGreatDoorZtG32
import Derived.Deep.CutBlock
namespace Go.Proofs.YtageoeogofeckaaGreatDoor
open Go.RowKit Go.Proofs.Fd Go.Proofs.Dk Go.Proofs.Lg
set_option maxRecDepth 20000
structure Su (w wr : World) (p : Nat) (F : Nat → Prop) (n : Nat) (f : Nat → Bs) (l : List Wt) (q : Nat) (v : Value) (x : Lo) (b ep most : Nat) (va vh : Value) (ah he : List Bs) : Prop where
  lu : Lu w wr p F n f l q v x
  es : Es wr b q ep most va vh ah he
  ap : ∀ y, EFt b va vh y → ¬ FH F q v y ∧ w.heap.size ≤ y
section
variable {w wr : World} {p : Nat} {F : Nat → Prop} {n : Nat} {f : Nat → Bs} {l : List Wt} {q : Nat} {v : Value} {x : Lo} {b ep most : Nat} {va vh : Value} {ah he : List Bs}
theorem Su.later (h : Su w wr p F n f l q v x b ep most va vh ah he) {w' : World} (hb : Below wr.heap.size wr w') : Su w w' p F n f l q v x b ep most va vh ah he := ⟨h.lu.later hb, h.es.later hb, h.ap⟩
theorem Su.log (h : Su w wr p F n f l q v x b ep most va vh ah he) {w' : World} {F' : Nat → Prop} {f' : Nat → Bs} {l' : List Wt} {v' : Value} {x' : Lo} (k : Lu w w' p F' n f' l' q v' x') (nx : Nx wr (FH F q v) (FH F' q v')) (hb : Bf (FH F q v) wr w') : Su w w' p F' n f' l' q v' x' b ep most va vh ah he :=
  ⟨k, h.es.bf hb (fun y hy => (h.ap y hy).1), fun y hy => ⟨nx.apart (h.ap y hy).1 (h.es.lt hy), (h.ap y hy).2⟩⟩
theorem Su.set (h : Su w wr p F n f l q v x b ep most va vh ah he) {w' : World} {ep' : Nat} {va' vh' : Value} {ah' he' : List Bs} (k : Es w' b q ep' most va' vh' ah' he') (hb : Bf (EFt b va vh) wr w') (nx : Nx wr (EFt b va vh) (EFt b va' vh')) : Su w w' p F n f l q v x b ep' most va' vh' ah' he' :=
  ⟨h.lu.other hb (fun y hF c => (h.ap y c).1 hF) (fun y c => (h.ap y c).2), k, fun y hy => by
    rcases nx y hy with e | e
    · exact h.ap y e
    · exact ⟨fun c => Nat.not_lt.2 e (h.lu.fh c).1, Nat.le_trans h.lu.hd_.dl.below.size e⟩⟩
end
def Sx (w wr : World) (b n most k ep : Nat) (ah he : List Bs) : Prop := ∃ p F f l q v x va vh, Su w wr p F n f l q v x b ep most va vh ah he ∧ x.tk ≤ 1 + k
theorem Sx.later {w wr w' : World} {b n most k ep : Nat} {ah he : List Bs} (h : Sx w wr b n most k ep ah he) (hb : Below wr.heap.size wr w') : Sx w w' b n most k ep ah he := by
  obtain ⟨p, F, f, l, q, v, x, va, vh, s, ht⟩ := h
  exact ⟨p, F, f, l, q, v, x, va, vh, s.later hb, ht⟩
theorem Sx.below {w wr : World} {b n most k ep : Nat} {ah he : List Bs} (h : Sx w wr b n most k ep ah he) : Below w.heap.size w wr := by
  obtain ⟨p, F, f, l, q, v, x, va, vh, s, ht⟩ := h
  exact s.lu.hd_.dl.below
theorem Lu.kh {w wr : World} {p : Nat} {F : Nat → Prop} {n : Nat} {f : Nat → Bs} {l : List Wt} {q : Nat} {v : Value} {x : Lo} (h : Lu w wr p F n f l q v x) (hk : Kh w) : Kh wr := hk.later h.hd_.dl.below
set_option maxHeartbeats 1000000 in
theorem swrite_any (w wr : World) (p : Nat) (F : Nat → Prop) (n : Nat) (f : Nat → Bs) (l : List Wt) (q : Nat) (v : Value) (x : Lo) (b ep most : Nat) (va vh : Value) (ah he : List Bs) (r : Bs) (ep' : Nat) (ah' he' : List Bs) (hr : may r = 0) (hf : x.tk + sn r ≤ n / 2)
    (TK : Hid (∀ W, Es W b q ep most va vh ah he → Calls Tryz.prog 33 #[.pointer (some ⟨b, 1, none⟩), .string (st r)] W fun e w' => e = .returned (.bool true) ∧ ∃ va' vh', Es w' b q ep' most va' vh' ah' he' ∧ Bf (EFt b va vh) W w' ∧ Nx W (EFt b va vh) (EFt b va' vh')))
    (hk : Hid (Kh w)) (h : Hid (Su w wr p F n f l q v x b ep most va vh ah he)) :
    Calls Tryz.prog 35 #[.pointer (some ⟨b, 0, none⟩), .string (st r)] wr fun e w' => e = .returned (.int .i64 0) ∧ ∃ F' f' l' v' va' vh', Su w w' p F' n f' l' q v' { x with ts := x.ts ++ [r] } b ep' most va' vh' ah' he' := by
  have A1 : Hid (Calls Tryz.prog 42 #[.pointer (some ⟨q, 0, none⟩), .string (st r)] wr fun e w' => e = .returned (.int .i64 0) ∧ ∃ F' f' l' v', Su w w' p F' n f' l' q v' { x with ts := x.ts ++ [r] } b ep most va vh ah he) :=
    (appendE w wr p F n f l q v x (st r) hr hf hk.out h.out.lu).mono fun _ _ ⟨e1, F', v', L1, N1, B1⟩ => ⟨e1, F', _, _, v', h.out.log L1 N1.fh B1⟩
  have S1 : Hid (∀ W F f l v x, Su w W p F n f l q v x b ep most va vh ah he → Calls Tryz.prog 44 #[.pointer (some ⟨q, 0, none⟩)] W fun e w' => e = .returned (.int .i64 0) ∧ ∃ F' f' l', Su w w' p F' n f' l' q v x b ep most va vh ah he) := fun W F f l v x k =>
    (syncE w W p F n f l q v x k.lu).mono fun _ _ ⟨e1, F', L1, N1, B1⟩ => ⟨e1, F', _, _, k.log L1 (FH.left N1) (B1.wide fun _ c => .inl c)⟩
  have k0 := h.out.es.bk.c 0 _ rfl
  obtain ⟨R, hR⟩ : ∃ R, st r = R := ⟨_, rfl⟩
  rw [hR] at TK A1 ⊢
  clear hR hr hf
  go_enter Tryz.func35, Tryz.ntmps35
  go_wp2_with fail
  refine Calls.mono A1.out ?_
  rintro e w1 ⟨rfl, F1, f1, l1, v1, s1⟩
  have J1 : Hid _ := s1
  have k1 := J1.out.es.bk.c 0 _ rfl
  clear s1 A1 h k0
  have S2 : Hid _ := S1.out w1 F1 f1 l1 v1 _ J1.out
  clear S1
  go_wp2_with fail
  refine Calls.mono S2.out ?_
  rintro e w2 ⟨rfl, F2, f2, l2, s2⟩
  have J2 : Hid _ := s2
  have k2 := J2.out.es.bk.c 0 _ rfl
  clear s2 S2 J1 k1
  have T2 : Hid _ := TK.out w2 J2.out.es
  clear TK
  go_wp2_with fail
  refine Calls.mono T2.out ?_
  rintro e w3 ⟨rfl, va3, vh3, E3, B3, N3⟩
  have J3 : Hid _ := J2.out.set E3 B3 N3
  clear E3 B3 N3 J2 k2 T2
  go_wp2
  go_ret
  exact ⟨rfl, F2, f2, l2, v1, va3, vh3, J3.out⟩
set_option maxHeartbeats 1000000 in
theorem sopen_new (w wr : World) (p : Nat) (F : Nat → Prop) (n most : Nat) (hn4 : 4 ≤ n) (hn2 : n ≤ 1024) (hm1 : 1 ≤ most) (hm2 : most ≤ 4096) (hk : Hid (Kh w)) (h : Hid (Dl w wr p F (up n zs []))) :
    Calls Tryz.prog 15 #[.pointer (some ⟨p, 0, none⟩), .int .i64 (most : Int)] wr fun e w' => ∃ b, e = .returned (.tuple #[.pointer (some ⟨b, 0, none⟩), .int .i64 0]) ∧ Sx w w' b n most 0 0 [] [] := by
  have O1 : Hid _ := openU_new w wr p F n hn4 hn2 hk.out h.out
  have g1 : ¬ (most : Int) < 1 := by omega
  have g2 : ¬ (4096 : Int) < (most : Int) := by omega
  clear h hk hm1 hm2
  go_enter Tryz.func15, Tryz.ntmps15
  go_wp2_with fail
  refine Calls.mono O1.out ?_
  rintro e w1 ⟨q, v, F1, rfl, L1, -, -, -⟩
  have E1 : Hid (Es (w1.alloc (.cells #[.pointer (some ⟨q, 0, none⟩), .int .i64 ((0 : Nat) : Int), .slice none 0 0, .slice none 0 0, .int .i64 (most : Int)] 75)) w1.heap.size q 0 most (.slice none 0 0) (.slice none 0 0) [] []) :=
    ⟨Blk.new w1 (stc q 0 (.slice none 0 0) (.slice none 0 0) most) _ (by simp), owns_nilS _, owns_nilS _, (fun c => by cases c), (fun c => by cases c), fun g c => by cases c⟩
  have S1 : Hid (∃ f, Su w (w1.alloc (.cells #[.pointer (some ⟨q, 0, none⟩), .int .i64 ((0 : Nat) : Int), .slice none 0 0, .slice none 0 0, .int .i64 (most : Int)] 75)) p F1 n f [] q v ⟨0, 1, []⟩ w1.heap.size 0 most (.slice none 0 0) (.slice none 0 0) [] []) := by
    refine ⟨_, L1.later (nb _ _), E1.out, fun y hy => ?_⟩
    rcases hy with rfl | e | e
    · exact ⟨fun c => Nat.lt_irrefl _ (L1.fh c).1, L1.hd_.dl.below.size⟩
    · cases e
    · cases e
  clear E1 L1 O1
  obtain ⟨B, hB⟩ : ∃ B, w1.heap.size = B := ⟨_, rfl⟩
  have S2 : Hid (∃ f, Su w (w1.alloc (.cells #[.pointer (some ⟨q, 0, none⟩), .int .i64 0, .slice none 0 0, .slice none 0 0, .int .i64 (most : Int)] 75)) p F1 n f [] q v ⟨0, 1, []⟩ B 0 most (.slice none 0 0) (.slice none 0 0) [] []) := by
    rw [← hB]
    exact S1.out
  have R1 : Hid (Calls Tryz.prog 32 #[.pointer (some ⟨q, 0, none⟩)] (w1.alloc (.cells #[.pointer (some ⟨q, 0, none⟩), .int .i64 0, .slice none 0 0, .slice none 0 0, .int .i64 (most : Int)] 75)) fun e w' => ∃ a c, e = .returned (.slice a 0 c) ∧ Sx w w' B n most 0 0 [] []) := by
    obtain ⟨f, s⟩ := S2.out
    exact (recordsU w _ p F1 n f [] q v ⟨0, 1, []⟩ s.lu).mono fun _ _ ⟨a, c, e1, _, hb⟩ => ⟨a, c, e1, p, F1, f, [], q, v, ⟨0, 1, []⟩, _, _, s.later hb, Nat.le_refl _⟩
  clear S1 S2
  go_wp2_with fail
  refine Calls.mono R1.out ?_
  rintro e w2 ⟨a, c, rfl, s2⟩
  have J2 : Hid _ := s2
  clear s2 R1 hB
  go_wp2
  go_loopw [35] (fun i wr => i = .int .i64 0 ∧ wr = w2) (fun _ _ => 0)
  case atStart => exact ⟨rfl, rfl⟩
  case round =>
    obtain ⟨rfl, rfl⟩ := hrel
    go_wp2
    go_ret2
    exact ⟨B, rfl, J2.out⟩
set_option maxHeartbeats 1000000 in
theorem sadd_ok (w wr : World) (b n most k ep : Nat) (ah he : List Bs) (t : Bs) (ht : t.length = 16) (hm : t ∉ ah ++ he) (hfull : ah.length + he.length < most) (hmost : most ≤ 4096) (hroom : 2 + k ≤ n / 2) (hk : Hid (Kh w)) (h : Hid (Sx w wr b n most k ep ah he)) :
    Calls Tryz.prog 16 #[.pointer (some ⟨b, 0, none⟩), .string (st t)] wr fun e w' => e = .returned (.int .i64 0) ∧ Sx w w' b n most (k + 1) ep ah (he ++ [t]) := by
  have TR : Hid _ := stagr_any t (by omega)
  have hs : (st t).size = 16 := by rw [st_size, ht]
  have sn1 : sn (84 :: t) = 1 := by unfold sn; rw [List.length_cons, ht]
  have mr : may (84 :: t) = 0 := by unfold may; rw [List.length_cons, ht, if_neg (by decide), if_neg (by decide)]
  obtain ⟨p, F, f, l, q, v, x, va, vh, s, hx⟩ := h.out
  have h1 : ah.length ≤ 100000 := by omega
  have h2 : he.length ≤ 100000 := by omega
  have HS : Hid _ := shas_any b q ep most va vh ah he h1 h2 (st t) wr s.es
  rw [st_data, decide_eq_false hm] at HS
  have MN : Hid (∀ W, Below wr.heap.size wr W → Calls Tryz.prog 34 #[.pointer (some ⟨b, 1, none⟩)] W fun e w' => e = .returned (.int .i64 ((ah.length + he.length : Nat) : Int)) ∧ Below wr.heap.size wr w') := fun W hW => (emany_any b q ep most va vh ah he h1 h2 W (s.es.later hW)).mono fun _ _ ⟨e1, hb⟩ => ⟨e1, chain hW hb⟩
  have WR : Hid (∀ W, Below wr.heap.size wr W → Calls Tryz.prog 35 #[.pointer (some ⟨b, 0, none⟩), .string (st (84 :: t))] W fun e w' => e = .returned (.int .i64 0) ∧ Sx w w' b n most (k + 1) ep ah (he ++ [t])) := fun W hW =>
    (swrite_any w W p F n f l q v x b ep most va vh ah he (84 :: t) ep ah (he ++ [t]) mr (by omega) (fun W' es => (etakeT_any b q ep most va vh ah he h1 h2 t ht hm W' es).mono fun _ _ ⟨e1, v', e2⟩ => ⟨e1, va, v', e2⟩) hk (s.later hW)).mono fun _ _ ⟨e1, F', f', l', v', va', vh', s'⟩ => ⟨e1, p, F', f', l', q, v', _, va', vh', s', by
      show tkn 1 (x.ts ++ [84 :: t]) ≤ 1 + (k + 1)
      rw [tkn_app, sn1]
      have : tkn 1 x.ts ≤ 1 + k := hx
      omega⟩
  have k4 := s.es.bk.c 4 _ rfl
  have k0 := s.es.bk.c 0 _ rfl
  obtain ⟨m, hmm⟩ : ∃ m, ah.length + he.length = m := ⟨_, rfl⟩
  rw [hmm] at MN hfull
  have g1 : ¬ (most : Int) ≤ (m : Int) := by omega
  obtain ⟨T, hT⟩ : ∃ T, st t = T := ⟨_, rfl⟩
  obtain ⟨S, hS⟩ : ∃ S, st (84 :: t) = S := ⟨_, rfl⟩
  rw [hT] at TR HS hs ⊢
  rw [hS] at TR WR
  clear hT hS hmm s h hx sn1 mr hm ht
  go_enter Tryz.func16, Tryz.ntmps16
  go_wp2_with fail
  refine Calls.mono HS.out ?_
  rintro e w1 ⟨rfl, rfl⟩
  clear HS
  go_wp2_with fail
  go_region_held3 (fun w' => w'.cell? ⟨b, 4, none⟩ = some (.int .i64 (most : Int)) ∧ Below w1.heap.size w1 w') (first | exact ⟨k4, (Below.refl _ _).drew⟩ | assumption | exact ⟨cell_later (by assumption) k4, by assumption⟩) (first | (go_at_call 34; refine Calls.mono (MN.out _ (by first | assumption | exact (Below.refl _ _).drew)) ?_; rintro e w2 ⟨rfl, hb2⟩))
  have BB : Hid (Below w1.heap.size w1 w2) := hb2
  clear hb2 MN k4
  go_wp2_with fail
  refine Calls.mono (TR.out _) ?_
  rintro e w3 ⟨rfl, rfl⟩
  clear TR
  have W3 : Hid _ := WR.out w3 BB.out
  clear WR
  go_wp2_with fail
  refine Calls.mono W3.out ?_
  rintro e w4 ⟨rfl, s4⟩
  have FF : Hid _ := s4
  clear s4 W3
  go_wp2
  go_ret
  exact ⟨rfl, FF.out⟩
end Go.Proofs.YtageoeogofeckaaGreatDoor
namespace Go.Proofs.YtageoeogofeckaaGreatDoor
open Go.RowKit Go.Proofs.Fd Go.Proofs.Dk Go.Proofs.Lg
set_option maxRecDepth 20000
theorem hasX (w wr : World) (b n most k ep : Nat) (ah he : List Bs) (t : Bs) (hl : ah.length + he.length ≤ 4096) (h : Sx w wr b n most k ep ah he) :
    Calls Tryz.prog 18 #[.pointer (some ⟨b, 0, none⟩), .string (st t)] wr fun e w' => e = .returned (.bool (decide (t ∈ ah ++ he))) ∧ w' = wr := by
  obtain ⟨p, F, f, l, q, v, x, va, vh, s, hx⟩ := h
  exact shas_any b q ep most va vh ah he (by omega) (by omega) (st t) wr s.es
theorem epochX (w wr : World) (b n most k ep : Nat) (ah he : List Bs) (h : Sx w wr b n most k ep ah he) :
    Calls Tryz.prog 9 #[.pointer (some ⟨b, 0, none⟩)] wr fun e w' => e = .returned (.int .i64 (ep : Int)) ∧ w' = wr := by
  obtain ⟨p, F, f, l, q, v, x, va, vh, s, hx⟩ := h
  exact sepoch_any b q ep most va vh ah he wr s.es
theorem sadd_seen (w wr : World) (b n most k ep : Nat) (ah he : List Bs) (t : Bs) (ht : t.length = 16) (hm : t ∈ ah ++ he) (hl : ah.length + he.length ≤ 4096) (h : Hid (Sx w wr b n most k ep ah he)) :
    Calls Tryz.prog 16 #[.pointer (some ⟨b, 0, none⟩), .string (st t)] wr fun e w' => e = .returned (.int .i64 170) ∧ w' = wr := by
  have hs : (st t).size = 16 := by rw [st_size, ht]
  have HS : Hid _ := hasX w wr b n most k ep ah he t hl h.out
  rw [decide_eq_true hm] at HS
  obtain ⟨T, hT⟩ : ∃ T, st t = T := ⟨_, rfl⟩
  rw [hT] at HS hs ⊢
  clear hT h hm ht
  go_enter Tryz.func16, Tryz.ntmps16
  go_wp2_with fail
  refine Calls.mono HS.out ?_
  rintro e w1 ⟨rfl, rfl⟩
  clear HS
  go_wp2
  go_ret
  exact ⟨rfl, rfl⟩
set_option maxHeartbeats 1000000 in
theorem srot_ok (w wr : World) (b n most k ep : Nat) (ah he : List Bs) (hep : ep ≤ 1000000) (hroom : 2 + k ≤ n / 2) (hk : Hid (Kh w)) (h : Hid (Sx w wr b n most k ep ah he)) :
    Calls Tryz.prog 17 #[.pointer (some ⟨b, 0, none⟩)] wr fun e w' => e = .returned (.int .i64 0) ∧ Sx w w' b n most (k + 1) (ep + 1) he [] := by
  have hl : (ben (ep + 1) 4).length = 4 := ben_len _ _
  have sn1 : sn (69 :: ben (ep + 1) 4) = 1 := by unfold sn; rw [List.length_cons, hl]
  have mr : may (69 :: ben (ep + 1) 4) = 0 := by unfold may; rw [List.length_cons, hl, if_neg (by decide), if_neg (by decide)]
  have ER : Hid (Calls Tryz.prog 37 #[.int .i64 ((ep : Int) + 1)] wr fun e w' => e = .returned (.string (st (69 :: ben (ep + 1) 4))) ∧ Below wr.heap.size wr w') := sepr_any (ep + 1) wr
  obtain ⟨p, F, f, l, q, v, x, va, vh, s, hx⟩ := h.out
  have WR : Hid (∀ W, Below wr.heap.size wr W → Calls Tryz.prog 35 #[.pointer (some ⟨b, 0, none⟩), .string (st (69 :: ben (ep + 1) 4))] W fun e w' => e = .returned (.int .i64 0) ∧ Sx w w' b n most (k + 1) (ep + 1) he []) := fun W hW =>
    (swrite_any w W p F n f l q v x b ep most va vh ah he (69 :: ben (ep + 1) 4) (ep + 1) he [] mr (by omega) (fun W' es => (etakeE_any b q ep most va vh ah he (by omega) W' es).mono fun _ _ ⟨e1, e2⟩ => ⟨e1, vh, _, e2⟩) hk (s.later hW)).mono fun _ _ ⟨e1, F', f', l', v', va', vh', s'⟩ => ⟨e1, p, F', f', l', q, v', _, va', vh', s', by
      show tkn 1 (x.ts ++ [69 :: ben (ep + 1) 4]) ≤ 1 + (k + 1)
      rw [tkn_app, sn1]
      have : tkn 1 x.ts ≤ 1 + k := hx
      omega⟩
  have k1 := s.es.bk.c 1 _ rfl
  have k0 := s.es.bk.c 0 _ rfl
  have g1 : ¬ (ep : Int) = 2147483647 := by omega
  have y1 : IntKind.i64.wrap ((ep : Int) + 1) = (ep : Int) + 1 := by rw [IntKind.wrap_i64]; omega
  obtain ⟨S, hS⟩ : ∃ S, st (69 :: ben (ep + 1) 4) = S := ⟨_, rfl⟩
  rw [hS] at ER WR
  clear hS s h hx sn1 mr hl
  go_enter Tryz.func17, Tryz.ntmps17
  go_wp2_with fail
  refine Calls.mono ER.out ?_
  rintro e w2 ⟨rfl, hb⟩
  have W3 : Hid _ := WR.out w2 hb
  clear WR ER hb
  go_wp2_with fail
  refine Calls.mono W3.out ?_
  rintro e w4 ⟨rfl, s4⟩
  have FF : Hid _ := s4
  clear s4 W3
  go_wp2
  go_ret
  exact ⟨rfl, FF.out⟩
theorem samong_is (x : Int) (N : Nat) (h0 : 0 < N) (h1 : N ≤ 1000) :
    ∃ m : Nat, m < N ∧ (∀ i : Nat, x = (i : Int) → i < N → m = i) ∧ ∀ w, Calls Tryz.prog 20 #[.int .i64 x, .int .i64 (N : Int)] w fun e w' => e = .returned (.int .i64 (m : Int)) ∧ w' = w := by
  have hN : (0 : Int) < (N : Int) := by omega
  have r1 := Int.tmod_lt_of_pos x hN
  have r2 := Int.lt_tmod_of_pos x hN
  obtain ⟨r, hr⟩ : ∃ r, Int.tmod x (N : Int) = r := ⟨_, rfl⟩
  rw [hr] at r1 r2
  have s1 := Int.tmod_lt_of_pos (r + (N : Int)) hN
  have s2 := Int.tmod_nonneg (N : Int) (show 0 ≤ r + (N : Int) by omega)
  obtain ⟨m, hm⟩ : ∃ m : Nat, Int.tmod (r + (N : Int)) (N : Int) = (m : Int) := ⟨(Int.tmod (r + (N : Int)) (N : Int)).toNat, by omega⟩
  rw [hm] at s1
  have z1 : IntKind.i64.wrap (Int.tmod x (N : Int)) = r := by rw [hr, IntKind.wrap_i64]; omega
  have z2 : IntKind.i64.wrap (r + (N : Int)) = r + (N : Int) := by rw [IntKind.wrap_i64]; omega
  have z3 : IntKind.i64.wrap (Int.tmod (r + (N : Int)) (N : Int)) = (m : Int) := by rw [hm, IntKind.wrap_i64]; omega
  have hN2 : ¬ (N : Int) = 0 := by omega
  have hi : ∀ i : Nat, x = (i : Int) → i < N → m = i := fun i e hi => by
    have e1 : r = (i : Int) := by rw [← hr, e, Int.tmod_eq_of_lt (by omega) (by omega)]
    have e2 : Int.tmod (r + (N : Int)) (N : Int) = (i : Int) := by
      rw [e1, Int.tmod_eq_emod_of_nonneg (by omega), Int.add_emod_right, Int.emod_eq_of_lt (by omega) (by omega)]
    rw [hm] at e2
    omega
  refine ⟨m, by omega, hi, fun w => ?_⟩
  clear r1 r2 s1 s2 h0 h1 hN hi
  go_enter Tryz.func20, Tryz.ntmps20
  go_wp2
  go_ret
  exact ⟨rfl, rfl⟩
def tl : Bs := [105, 120, 116, 101, 101, 110, 32, 98, 121, 116, 101, 115, 32, 33, 33]
end Go.Proofs.YtageoeogofeckaaGreatDoor
namespace Go.Proofs.YtageoeogofeckaaGreatDoor
open Go.RowKit Go.Proofs.Fd Go.Proofs.Dk Go.Proofs.Lg
set_option maxRecDepth 20000
theorem ints_old {w : World} {a : Option Addr} {cs : List Int} (h : IntAt w a cs) : ∀ x, a = some x → 0 < cs.length → x.block < w.heap.size := fun x hx h0 => by
  obtain ⟨b, o, e, hc⟩ := h 0 h0
  rw [e] at hx
  injection hx with hx
  subst hx
  exact World.block_lt_of_cell? _ _ hc
structure Iv (n : Nat) (most : Int) (k : Nat) (s : St) (o : Option (Lo × Ey)) : Prop where
  n : s.n = n
  h : Hh s
  l : s.l.length ≤ 600 * k
  g : ∀ x y, o = some (x, y) → Gn (600 + k) y ∧ 1 ≤ most ∧ most ≤ 4096
def Ps (w : World) (B : Nat) (most : Int) (p d n k : Nat) (w' : World) : Prop := ∃ s o, Bo w w' B most p d s o ∧ Iv n most k s o
theorem gn_up {a b : Nat} {y : Ey} (g : Gn a y) (h : a ≤ b) : Gn b y := ⟨g.e, g.z, g.t, Nat.le_trans g.n h⟩
theorem Iv.up {n : Nat} {most : Int} {k : Nat} {s : St} {o : Option (Lo × Ey)} (h : Iv n most k s o) : Iv n most (k + 1) s o :=
  ⟨h.n, h.h, by have := h.l; omega, fun x y e => ⟨gn_up (h.g x y e).1 (by omega), (h.g x y e).2⟩⟩
section
variable {w wr : World} {B : Nat} {most : Int} {p d : Nat} {s : St} {o : Option (Lo × Ey)}
theorem Bo.bt (h : Bo w wr B most p d s o) : ∃ pv pk Ft Gt, Bt w wr B most p d s o pv pk Ft Gt ∧ (o = none ↔ pv = none) ∧ (o = none ↔ pk = none) := by
  match o, h with
  | none, ⟨F, G, k⟩ => exact ⟨none, none, F, G, ⟨k.bk, ⟨rfl, k.dl⟩, ⟨rfl, k.at_⟩, k.fg, k.fb, k.gb, k.dl.new, k.nG, k.nB⟩, ⟨fun _ => rfl, fun _ => rfl⟩, ⟨fun _ => rfl, fun _ => rfl⟩⟩
  | some (x, y), ⟨F, q, v, b, va, vh, G, q', v', b', u, k⟩ =>
    refine ⟨some ⟨b, 0, none⟩, some ⟨b', 0, none⟩, FP F q v b va vh, FZ G q' v' b' u, ⟨k.bk, ⟨q, b, F, v, va, vh, rfl, k.pz, rfl⟩, ⟨q', b', G, v', u, rfl, k.rz, rfl⟩, k.fg, k.fb, k.gb, fun z hz => ?_, k.nG, k.nB⟩, ⟨(fun c => by cases c), (fun c => by cases c)⟩, ⟨(fun c => by cases c), (fun c => by cases c)⟩⟩
    rcases hz with c | c
    · exact (k.pz.lz.fh c).2
    · exact (k.pz.ap z c).2
theorem Bo.lo {x : Lo} {y : Ey} (h : Bo w wr B most p d s (some (x, y))) : x.h ≤ 1 ∧ 4 ≤ s.n ∧ x.ts.length ≤ 512 := by
  obtain ⟨F, q, v, b, va, vh, G, q', v', b', u, k⟩ := h
  refine ⟨k.pz.lz.h1, k.pz.lz.n4, ?_⟩
  have h1 := k.pz.lz.tk
  have h2 := k.pz.lz.n2
  have h3 : 1 + x.ts.length ≤ x.tk := tkn_ge_len x.ts
  omega
theorem Bo.start (h : Bo w wr B most p d s o) (bl : Obj) : ∃ pv pk U0, Bx2 w (wr.alloc bl) U0 (wr.alloc bl) B most p d s o s o pv pk ∧ ¬ U0 wr.heap.size ∧ (o = none ↔ pv = none) ∧ (o = none ↔ pk = none) := by
  obtain ⟨pv, pk, Ft, Gt, k, h1, h2⟩ := h.bt
  have nb : Below wr.heap.size wr (wr.alloc bl) := (Below.refl _ _).alloc (Nat.le_refl _) _
  refine ⟨pv, pk, UU Ft Gt B, ⟨Ft, Gt, k.b2.later nb, Nx.refl _ _, Bf.refl _ _⟩, fun c => ?_, h1, h2⟩
  rcases c with c | c | c
  · exact Nat.lt_irrefl _ (k.pp.lt c)
  · exact Nat.lt_irrefl _ (k.rp.lt c)
  · have := k.bk.lt
    omega
end
section
variable {w w0 : World} {U0 : Nat → Prop} {wr : World} {B A : Nat} {most : Int} {p d : Nat} {sP sR : St} {ps pk : Option Addr} {ak an : Int} {X P : Value}
theorem Sx2.f8 (h : Sx2 w w0 U0 wr B most p d sP sR ps pk) (hU : ¬ U0 A) (h0 : w0.cell? ⟨A, 0, none⟩ = some (.int .i64 ak)) (h1 : w0.cell? ⟨A, 1, none⟩ = some (.int .i64 an)) (h2 : w0.cell? ⟨A, 2, none⟩ = some X) (h3 : w0.cell? ⟨A, 3, none⟩ = some P) : F8 B A p d ps pk ak an X P wr := by
  obtain ⟨F, G, k, nn, ff⟩ := h
  exact ⟨k.bk.c 1 _ rfl, k.bk.c 2 _ rfl, k.bk.c 3 _ rfl, k.bk.c 4 _ rfl, ff.cell h0 hU, ff.cell h1 hU, ff.cell h2 hU, ff.cell h3 hU⟩
theorem Sx2.ok (h : Sx2 w w0 U0 wr B most p d sP sR ps pk) : Ok sR := by
  obtain ⟨F, G, k, nn, ff⟩ := h
  exact k.at_.1
theorem Sx2.down (h : Sx2 w w0 U0 wr B most p d sP sR ps pk) : wr.cell? ⟨d, 3, none⟩ = some (.bool sR.down) := by
  obtain ⟨F, G, k, nn, ff⟩ := h
  obtain ⟨-, sg, sc, v, -, hr⟩ := k.at_
  exact hr.c3
theorem Bx2.bo {s : St} {o : Option (Lo × Ey)} (h : Bx2 w w0 U0 wr B most p d s o s o ps pk) : Bo w wr B most p d s o := by
  obtain ⟨Ft, Gt, k, nn, ff⟩ := h
  exact k.bt.bo
end
theorem act_cells (wr : World) (ak an : Int) (X : ByteArray) (pa : Option Addr) (pn pc : Nat) (t : TypeId) :
    (wr.alloc (.cells #[.int .i64 ak, .int .i64 an, .string X, .slice pa pn pc] t)).cell? ⟨wr.heap.size, 0, none⟩ = some (.int .i64 ak) ∧ (wr.alloc (.cells #[.int .i64 ak, .int .i64 an, .string X, .slice pa pn pc] t)).cell? ⟨wr.heap.size, 1, none⟩ = some (.int .i64 an) ∧ (wr.alloc (.cells #[.int .i64 ak, .int .i64 an, .string X, .slice pa pn pc] t)).cell? ⟨wr.heap.size, 2, none⟩ = some (.string X) ∧ (wr.alloc (.cells #[.int .i64 ak, .int .i64 an, .string X, .slice pa pn pc] t)).cell? ⟨wr.heap.size, 3, none⟩ = some (.slice pa pn pc) :=
  ⟨by simp [go_sem], by simp [go_sem], by simp [go_sem], by simp [go_sem]⟩
theorem bopened_any (w w0 : World) (U0 : Nat → Prop) (wr : World) (B : Nat) (most : Int) (p d n k : Nat) (hn : n ≤ 60) (hk30 : k ≤ 30) (s : St) (ps pk : Option Addr) (hk : Kh w) (h1 : s.n = n) (h2 : Hh s) (h3 : s.l.length ≤ 600 * k + 300) (h : Sx2 w w0 U0 wr B most p d s s ps pk) :
    Calls Tryz.prog 7 #[.pointer (some ⟨B, 0, none⟩)] wr fun e w1 => e = .returned (.bool true) ∧ Ps w B most p d n (k + 1) w1 := by
  have ok := h.ok
  obtain ⟨F, G, sd, -, -⟩ := h.sd
  refine (bopen_any take_c w wr B most p d F G s ps pk (by omega) (by omega) h2 hk sd).mono ?_
  rintro e w1 ⟨e1, e2⟩
  have kp := kp_opz ok most
  have kl := kp.l
  refine ⟨e1, _, _, e2, kp.n.trans h1, kp.h h2, by omega, fun x y ex => ?_⟩
  rw [ex] at e2
  have lo := e2.lo
  have gz := gn_opz ex
  have hm : ¬ (most < 1 ∨ 4096 < most) := fun c => by
    unfold opz at ex
    rw [if_pos c] at ex
    cases ex
  exact ⟨gn_up gz.1 (by omega), by omega, by omega⟩
theorem bforeign_any (w : World) (hk : Kh w) (B : Nat) (most : Int) (p d n k : Nat) (hn : n ≤ 60) (hk30 : k ≤ 30) (s : St) (o : Option (Lo × Ey)) (ak an : Int) (X : ByteArray) (pa : Option Addr) (pn pc : Nat) (l : List Int) (hp : IntAt w pa l) (hpn : l.length = pn) (wr : World) (b : Bo w wr B most p d s o) (iv : Iv n most k s o) :
    Calls Tryz.prog 25 #[.pointer (some ⟨B, 0, none⟩), .agg #[.int .i64 ak, .int .i64 an, .string X, .slice pa pn pc]] wr fun e w' => e = .returned (.bool true) ∧ Ps w B most p d n (k + 1) w' := by
  obtain ⟨ps, pk, U0, bx, hU, -, -⟩ := b.start (.cells #[.int .i64 ak, .int .i64 an, .string X, .slice pa pn pc] 39)
  obtain ⟨-, -, a2, a3⟩ := act_cells wr ak an X pa pn pc 39
  have sx := bx.sx
  have ok := sx.ok
  obtain ⟨i1, i2, i3, -⟩ := iv
  have kc := kp_crash ok l
  obtain ⟨s1, hs1⟩ : ∃ s1, crS s l = s1 := ⟨_, rfl⟩
  have cl : s1.l.length ≤ 600 * k := by have := kc.l; rw [hs1] at this; omega
  have cn : s1.n = n := by have := kc.n; rw [hs1] at this; omega
  have ch : Hh s1 := by have := kc.h i2; rw [hs1] at this; exact this
  have hlt := ints_old hp
  obtain ⟨W1, hW1⟩ : ∃ W, wr.alloc (.cells #[.int .i64 ak, .int .i64 an, .string X, .slice pa pn pc] 39) = W := ⟨_, rfl⟩
  have hO : ∀ {W : World}, Sx2 w W1 U0 W B most p d s1 s1 ps pk → Kp s1 (opn s1).1.2 122 ∧ ((opn s1).1.1 = 0 → (opn s1).2.h ≤ 1) := fun z => by
    have ok1 := z.ok
    have q1 := kp_opn ok1
    exact ⟨q1.mono (by omega), fun e => (opn_ok e ok1).2.1⟩
  have f4 : ∀ {W : World} {sP sR : St}, Sx2 w W1 U0 W B most p d sP sR ps pk → F4 B wr.heap.size p d (.string X) (.slice pa pn pc) W := fun z => z.f4 hU (by rw [← hW1]; exact a2) (by rw [← hW1]; exact a3)
  refine foreign_core B wr.heap.size p d ak an X pa pn pc (opn s1).1.1 (app (opn s1).1.2 (opn s1).2 X.data.toList).1.1 (syE (app (opn s1).1.2 (opn s1).2 X.data.toList).1.2) _
    (fun W => Sx2 w W1 U0 W B most p d s s ps pk) (fun W => Sx2 w W1 U0 W B most p d s1 s ps pk) (fun W => Sx2 w W1 U0 W B most p d s1 s1 ps pk ∧ Kp s1 (opn s1).1.2 122 ∧ ((opn s1).1.1 = 0 → (opn s1).2.h ≤ 1))
    (fun pl W => Lx w W1 U0 W B most p d (opn s1).1.2 (oLo (opn s1)) s1 none ps pk pl none ∧ Kp s1 (opn s1).1.2 122 ∧ ((opn s1).1.1 = 0 → (opn s1).2.h ≤ 1))
    (fun pl kl W => Lx w W1 U0 W B most p d (opn s1).1.2 (oLo (opn s1)) (opn s1).1.2 (oLo (opn s1)) ps pk pl kl ∧ Kp s1 (opn s1).1.2 122 ∧ ((opn s1).1.1 = 0 → (opn s1).2.h ≤ 1))
    (fun pl kl W => Lx w W1 U0 W B most p d (app (opn s1).1.2 (opn s1).2 X.data.toList).1.2 (some (app (opn s1).1.2 (opn s1).2 X.data.toList).2) (opn s1).1.2 (some (opn s1).2) ps pk pl kl ∧ Kp s1 (app (opn s1).1.2 (opn s1).2 X.data.toList).1.2 162 ∧ Kp s1 (opn s1).1.2 122)
    (fun pl kl W => Lx w W1 U0 W B most p d (app (opn s1).1.2 (opn s1).2 X.data.toList).1.2 (some (app (opn s1).1.2 (opn s1).2 X.data.toList).2) (app (opn s1).1.2 (opn s1).2 X.data.toList).1.2 (some (app (opn s1).1.2 (opn s1).2 X.data.toList).2) ps pk pl kl ∧ Kp s1 (app (opn s1).1.2 (opn s1).2 X.data.toList).1.2 162)
    (fun pl kl W => Lx w W1 U0 W B most p d (syS (app (opn s1).1.2 (opn s1).2 X.data.toList).1.2) (some (app (opn s1).1.2 (opn s1).2 X.data.toList).2) (app (opn s1).1.2 (opn s1).2 X.data.toList).1.2 (some (app (opn s1).1.2 (opn s1).2 X.data.toList).2) ps pk pl kl ∧ Kp s1 (app (opn s1).1.2 (opn s1).2 X.data.toList).1.2 162)
    (fun pl kl W => Lx w W1 U0 W B most p d (syS (app (opn s1).1.2 (opn s1).2 X.data.toList).1.2) (some (app (opn s1).1.2 (opn s1).2 X.data.toList).2) (syS (app (opn s1).1.2 (opn s1).2 X.data.toList).1.2) (some (app (opn s1).1.2 (opn s1).2 X.data.toList).2) ps pk pl kl ∧ Kp s1 (app (opn s1).1.2 (opn s1).2 X.data.toList).1.2 162)
    wr rfl ?_ ?_ ?_ ?_ ?_ ?_ ?_ ?_ ?_ ?_ ?_ ?_ ?_ ?_
  · exact fun W z => Sx2.later z (Below.refl _ _).drew
  · exact fun W z => Sx2.later z (Below.refl _ _).drew
  · exact fun a b W z => ⟨Lx.later z.1 (Below.refl _ _).drew, z.2⟩
  · rw [hW1] at sx ⊢
    exact ⟨sx, f4 sx⟩
  · intro W z
    have := bcrashP_any w W1 U0 W B most p d s s ps pk pa pn pc l hpn (by omega) hp hlt z
    rw [hs1] at this
    exact this.mono fun _ _ ⟨x1, x2⟩ => ⟨x1, f4 x2, x2⟩
  · intro W z
    have := bcrashR_any w W1 U0 W B most p d s1 s ps pk pa pn pc l hpn (by omega) hp hlt z
    rw [hs1] at this
    exact this.mono fun _ _ ⟨x1, x2⟩ => ⟨x1, f4 x2, x2, hO x2⟩
  · intro W ⟨z, zz⟩
    refine (flopenP_any w W1 U0 W B most p d s1 s1 none ps pk none (by omega) (by omega) hk z.lx).mono ?_
    rintro e w1 ⟨pl, x1, x2, x3⟩
    refine ⟨pl, x1, f4 x2.sx, ⟨x2, zz⟩, ?_⟩
    unfold oLo at x3
    by_cases c : (opn s1).1.1 = 0
    · rw [if_pos c] at x3
      exact ⟨fun _ e => (by have := x3.2 e; cases this), fun _ => c⟩
    · rw [if_neg c] at x3
      exact ⟨fun e => absurd e c, fun e => absurd (x3.1 rfl) e⟩
  · intro W pl ⟨z, zz⟩
    refine (flopenR_any w W1 U0 W B most p d (opn s1).1.2 s1 (oLo (opn s1)) ps pk pl (by omega) (by omega) ch z).mono ?_
    rintro e w1 ⟨kl, x1, x2, x3⟩
    refine ⟨kl, x1, f4 x2.sx, ⟨x2, zz⟩, ?_⟩
    unfold oLo at x3
    by_cases c : (opn s1).1.1 = 0
    · rw [if_pos c] at x3
      exact ⟨fun _ e => (by have := x3.2 e; cases this), fun _ => c⟩
    · rw [if_neg c] at x3
      exact ⟨fun e => absurd e c, fun e => absurd (x3.1 rfl) e⟩
  · intro W a b hz ⟨z, zz, zh⟩
    have e2 : oLo (opn s1) = some (opn s1).2 := if_pos hz
    rw [e2] at z
    have zl := zz.l
    refine (flappP_any w W1 U0 W B most p d (opn s1).1.2 (opn s1).1.2 (opn s1).2 (some (opn s1).2) ps pk (some a) (some b) X (by omega) hk z).mono ?_
    rintro e w1 ⟨x1, x2⟩
    exact ⟨x1, f4 x2.sx, x2, (zz.trans (kp_app (zh hz) X.data.toList)).mono (by omega), zz⟩
  · intro W a b hz ⟨z, zz, zy⟩
    have zl := zy.l
    refine (flappR_any w W1 U0 W B most p d _ (opn s1).1.2 (opn s1).2 _ ps pk (some a) (some b) X (by omega) z).mono ?_
    rintro e w1 ⟨x1, x2⟩
    exact ⟨x1, f4 x2.sx, x2, zz⟩
  · intro W a b hz ⟨z, zz⟩
    have zl := zz.l
    refine (flsyncP_any w W1 U0 W B most p d _ _ _ _ ps pk (some a) (some b) (by omega) z).mono ?_
    rintro e w1 ⟨x1, x2⟩
    exact ⟨x1, f4 x2.sx, x2, zz⟩
  · intro W a b hz ⟨z, zz⟩
    have zl := zz.l
    refine (flsyncR_any w W1 U0 W B most p d _ _ _ _ ps pk (some a) (some b) (by omega) z).mono ?_
    rintro e w1 ⟨x1, x2⟩
    exact ⟨x1, f4 x2.sx, x2, zz⟩
  · intro W a b hz ⟨z, zz⟩
    have ks := zz.trans (kp_sync (app (opn s1).1.2 (opn s1).2 X.data.toList).1.2)
    have kl := ks.l
    exact bopened_any w W1 U0 W B most p d n k hn hk30 _ ps pk hk (ks.n.trans cn) (ks.h ch) (by omega) z.sx
  · intro W hz ⟨z, zz, zh⟩
    have kl := zz.l
    exact bopened_any w W1 U0 W B most p d n k hn hk30 _ ps pk hk (zz.n.trans cn) (zz.h ch) (by omega) z.sx
theorem bstep_any (w : World) (hk : Kh w) (B : Nat) (most : Int) (p d n k : Nat) (hn : n ≤ 60) (hk30 : k ≤ 30) (s : St) (o : Option (Lo × Ey)) (ak an : Int) (X : ByteArray) (pa : Option Addr) (pn pc : Nat) (l : List Int) (hp : IntAt w pa l) (hpn : l.length = pn) (wr : World) (b : Bo w wr B most p d s o) (iv : Iv n most k s o) :
    Calls Tryz.prog 8 #[.pointer (some ⟨B, 0, none⟩), .agg #[.int .i64 ak, .int .i64 an, .string X, .slice pa pn pc]] wr fun e w' => e = .returned (.bool true) ∧ Ps w B most p d n (k + 1) w' := by
  obtain ⟨m, hm6, -, AM⟩ := samong_is ak 6 (by decide) (by decide)
  obtain ⟨ps, pk, U0, bx, hU, ips, ipk⟩ := b.start (.cells #[.int .i64 ak, .int .i64 an, .string X, .slice pa pn pc] 39)
  obtain ⟨a0, a1, a2, a3⟩ := act_cells wr ak an X pa pn pc 39
  have sx := bx.sx
  have ok := sx.ok
  have dn := sx.down
  have i1 := iv.n
  have i2 := iv.h
  have i3 := iv.l
  have hlt := ints_old hp
  have nb1 := nb wr (.cells #[.int .i64 ak, .int .i64 an, .string X, .slice pa pn pc] 39)
  obtain ⟨W1, hW1⟩ : ∃ W, wr.alloc (.cells #[.int .i64 ak, .int .i64 an, .string X, .slice pa pn pc] 39) = W := ⟨_, rfl⟩
  rw [hW1] at bx sx dn a0 a1 a2 a3 nb1
  have f8 : ∀ {W : World} {sP sR : St}, Sx2 w W1 U0 W B most p d sP sR ps pk → F8 B wr.heap.size p d ps pk ak an (.string X) (.slice pa pn pc) W := fun z => z.f8 hU a0 a1 a2 a3
  have IDLE : m < 3 → (ps = none ∨ s.down = true) → Calls Tryz.prog 8 #[.pointer (some ⟨B, 0, none⟩), .agg #[.int .i64 ak, .int .i64 an, .string X, .slice pa pn pc]] wr fun e w' => e = .returned (.bool true) ∧ Ps w B most p d n (k + 1) w' := fun h3 hi =>
    step_idle B wr.heap.size p d ps pk ak an X pa pn pc (Ps w B most p d n (k + 1)) wr rfl m h3 s.down (ips.symm.trans ipk) hi AM (by rw [hW1]; exact ⟨dn, ⟨s, o, b.later nb1, iv.up⟩, f8 sx⟩)
  by_cases h3 : m < 3
  · match o, ips, ipk, bx, iv, IDLE with
    | none, ips, ipk, bx, iv, IDLE => exact IDLE h3 (.inl (ips.1 rfl))
    | some (x, y), ips, ipk, bx, iv, IDLE =>
      by_cases hd : s.down = true
      · exact IDLE h3 (.inr hd)
      · have hd' : s.down = false := by simpa using hd
        rw [hd'] at dn
        obtain ⟨q1, rfl⟩ : ∃ a, ps = some a := by
          cases ps with
          | none => exact absurd (ips.2 rfl) (by simp)
          | some a => exact ⟨a, rfl⟩
        obtain ⟨q2, rfl⟩ : ∃ a, pk = some a := by
          cases pk with
          | none => exact absurd (ipk.2 rfl) (by simp)
          | some a => exact ⟨a, rfl⟩
        obtain ⟨gy, m1, m2⟩ := iv.g x y rfl
        have gd : Gd y := gy.gd (by omega)
        obtain ⟨lh, ln, -⟩ := bx.bo.lo
        obtain rfl | rfl | rfl : m = 0 ∨ m = 1 ∨ m = 2 := by omega
        · refine step_add B wr.heap.size p d q1 q2 ak an X pa pn pc (Ps w B most p d n (k + 1)) (fun W => Bx2 w W1 U0 W B most p d s (some (x, y)) s (some (x, y)) (some q1) (some q2)) (fun W => Bx2 w W1 U0 W B most p d (adp most.toNat s x y X.data.toList).1.1.2 (some ((adp most.toNat s x y X.data.toList).1.2, (adp most.toNat s x y X.data.toList).2)) s (some (x, y)) (some q1) (some q2)) wr rfl (adp most.toNat s x y X.data.toList).1.1.1 AM (fun W z => Bx2.later z (Below.refl _ _).drew) (by rw [hW1]; exact ⟨dn, bx, f8 sx⟩) ?_ ?_
          · intro W z
            exact (baddP_any w W1 U0 W B most p d s s x y _ _ _ take_c hk X gd (by omega) z).mono fun _ _ ⟨x1, x2⟩ => ⟨x1, f8 x2.sx, x2⟩
          · intro W z
            refine (baddR_any w W1 U0 W B most p d _ s x y _ _ _ X (by omega) gd hd' (by omega) z).mono fun _ _ ⟨x1, x2⟩ => ⟨x1, f8 x2.sx, _, _, x2.bo, ?_⟩
            have kp := kp_adp (most := most.toNat) lh ln y X.data.toList (s := s)
            have kl := kp.l
            refine ⟨kp.n.trans i1, kp.h i2, by omega, fun x' y' e => ?_⟩
            injection e with e
            injection e with _ e
            subst e
            exact ⟨gn_up (gn_adp gy X.data.toList) (by omega), m1, m2⟩
        · refine step_rot B wr.heap.size p d q1 q2 ak an X pa pn pc (Ps w B most p d n (k + 1)) (fun W => Bx2 w W1 U0 W B most p d s (some (x, y)) s (some (x, y)) (some q1) (some q2)) (fun W => Bx2 w W1 U0 W B most p d (rop s x y).1.1.2 (some ((rop s x y).1.2, (rop s x y).2)) s (some (x, y)) (some q1) (some q2)) wr rfl (rop s x y).1.1.1 AM (fun W z => Bx2.later z (Below.refl _ _).drew) (by rw [hW1]; exact ⟨dn, bx, f8 sx⟩) ?_ ?_
          · intro W z
            exact (brotP_any w W1 U0 W B most p d s s x y _ _ _ take_c hk gd (by omega) z).mono fun _ _ ⟨x1, x2⟩ => ⟨x1, f8 x2.sx, x2⟩
          · intro W z
            refine (brotR_any w W1 U0 W B most p d _ s x y _ _ _ gd hd' (by omega) z).mono fun _ _ ⟨x1, x2⟩ => ⟨x1, f8 x2.sx, _, _, x2.bo, ?_⟩
            have kp := kp_rop lh ln y (s := s)
            have kl := kp.l
            refine ⟨kp.n.trans i1, kp.h i2, by omega, fun x' y' e => ?_⟩
            injection e with e
            injection e with _ e
            subst e
            exact ⟨gn_up (gn_rop gy) (by omega), m1, m2⟩
        · refine step_has B wr.heap.size p d q1 q2 ak an X pa pn pc (Ps w B most p d n (k + 1)) (fun W => Bx2 w W1 U0 W B most p d s (some (x, y)) s (some (x, y)) (some q1) (some q2)) (fun W => Bx2 w W1 U0 W B most p d s (some (x, y)) s (some (x, y)) (some q1) (some q2)) wr rfl (decide (X.data.toList ∈ y.2.1 ++ y.2.2)) AM (fun W z => Bx2.later z (Below.refl _ _).drew) (by rw [hW1]; exact ⟨dn, bx, f8 sx⟩) ?_ ?_
          · intro W z
            exact (bhasP_any w W1 U0 W B most p d s s x y _ _ _ X gd z).mono fun _ _ ⟨x1, x2⟩ => ⟨x1, by subst x2; exact f8 z.sx, by subst x2; exact z⟩
          · intro W z
            exact (bhasR_any w W1 U0 W B most p d _ s x y _ _ _ X gd z).mono fun _ _ ⟨x1, x2⟩ => ⟨x1, by subst x2; exact f8 z.sx, _, _, by subst x2; exact z.bo, iv.up⟩
  · obtain rfl | rfl | rfl : m = 3 ∨ m = 4 ∨ m = 5 := by omega
    · refine step_fuse B wr.heap.size p d ps pk ak an X pa pn pc (Ps w B most p d n (k + 1)) (fun W => Bx2 w W1 U0 W B most p d s o s o ps pk) (fun W => Bx2 w W1 U0 W B most p d (fuS s an) o s o ps pk) wr rfl (fuE s an) AM (fun W z => Bx2.later z (Below.refl _ _).drew) (by rw [hW1]; exact ⟨bx, f8 sx⟩) ?_ ?_
      · intro W z
        exact (bfuseP_any w W1 U0 W B most p d s o s o ps pk an z).mono fun _ _ ⟨x1, x2⟩ => ⟨x1, f8 x2.sx, x2⟩
      · intro W z
        refine (bfuseR_any w W1 U0 W B most p d _ o s o ps pk an z).mono fun _ _ ⟨x1, x2⟩ => ⟨x1, f8 x2.sx, _, _, x2.bo, ?_⟩
        have kp := kp_fuse s an
        have kl := kp.l
        exact ⟨kp.n.trans i1, kp.h i2, by omega, iv.up.g⟩
    · have kc := kp_crash ok l
      have cl := kc.l
      refine step_crash B wr.heap.size p d ps pk ak an X pa pn pc (Ps w B most p d n (k + 1)) (fun W => Sx2 w W1 U0 W B most p d s s ps pk) (fun W => Sx2 w W1 U0 W B most p d (crS s l) s ps pk) (fun W => Sx2 w W1 U0 W B most p d (crS s l) (crS s l) ps pk) wr rfl AM (fun W z => Sx2.later z (Below.refl _ _).drew) (fun W z => Sx2.later z (Below.refl _ _).drew) (by rw [hW1]; exact ⟨sx, f8 sx⟩) ?_ ?_ ?_
      · intro W z
        exact (bcrashP_any w W1 U0 W B most p d s s ps pk pa pn pc l hpn (by omega) hp hlt z).mono fun _ _ ⟨x1, x2⟩ => ⟨x1, f8 x2, x2⟩
      · intro W z
        exact (bcrashR_any w W1 U0 W B most p d _ s ps pk pa pn pc l hpn (by omega) hp hlt z).mono fun _ _ ⟨x1, x2⟩ => ⟨x1, f8 x2, x2⟩
      · intro W z
        exact bopened_any w W1 U0 W B most p d n k hn hk30 _ ps pk hk (kc.n.trans i1) (kc.h i2) (by omega) z
    · refine step_foreign B wr.heap.size p d ps pk ak an X pa pn pc (Ps w B most p d n (k + 1)) (fun W => Bo w W B most p d s o) wr rfl AM (by rw [hW1]; exact ⟨b.later nb1, f8 sx⟩) ?_
      intro W z
      exact bforeign_any w hk B most p d n k hn hk30 s o ak an X pa pn pc l hp hpn W z iv
end Go.Proofs.YtageoeogofeckaaGreatDoor
namespace Go.Proofs.YtageoeogofeckaaGreatDoor
open Go.RowKit Go.Proofs.Fd Go.Proofs.Dk Go.Proofs.Lg
set_option maxRecDepth 20000
def ts6 : Bs := [115, 105, 120, 116, 101, 101, 110, 32, 98, 121, 116, 101, 115, 32, 33, 33]
set_option maxHeartbeats 4000000 in
theorem sworks_any (w : World) (hk : Hid (Kh w)) : Calls Tryz.prog 6 #[] w fun e w' => e = .returned (.bool true) ∧ Below w.heap.size w w' := by
  have NW : Hid _ := newL w w 40 (by decide) (by decide) (Below.refl _ _)
  have OP : Hid (∀ p F W, Dl w W p F (up 40 zs []) → Calls Tryz.prog 15 #[.pointer (some ⟨p, 0, none⟩), .int .i64 10] W fun e w' => ∃ b, e = .returned (.tuple #[.pointer (some ⟨b, 0, none⟩), .int .i64 0]) ∧ Sx w w' b 40 10 0 0 [] []) := fun p F W d => sopen_new w W p F 40 10 (by decide) (by decide) (by decide) (by decide) hk d
  have A1 : Hid (∀ b W, Sx w W b 40 10 0 0 [] [] → Calls Tryz.prog 16 #[.pointer (some ⟨b, 0, none⟩), .string ⟨#[115, 105, 120, 116, 101, 101, 110, 32, 98, 121, 116, 101, 115, 32, 33, 33]⟩] W fun e w' => e = .returned (.int .i64 0) ∧ Sx w w' b 40 10 1 0 [] [ts6]) := fun b W s => sadd_ok w W b 40 10 0 0 [] [] ts6 rfl (by simp) (by decide) (by decide) (by decide) hk s
  have A2 : Hid (∀ b W, Sx w W b 40 10 1 0 [] [ts6] → Calls Tryz.prog 16 #[.pointer (some ⟨b, 0, none⟩), .string ⟨#[115, 105, 120, 116, 101, 101, 110, 32, 98, 121, 116, 101, 115, 32, 33, 33]⟩] W fun e w' => e = .returned (.int .i64 170) ∧ w' = W) := fun b W s => sadd_seen w W b 40 10 1 0 [] [ts6] ts6 rfl (by simp) (by decide) s
  have R1 : Hid (∀ b W, Sx w W b 40 10 1 0 [] [ts6] → Calls Tryz.prog 17 #[.pointer (some ⟨b, 0, none⟩)] W fun e w' => e = .returned (.int .i64 0) ∧ Sx w w' b 40 10 2 1 [ts6] []) := fun b W s => srot_ok w W b 40 10 1 0 [] [ts6] (by decide) (by decide) hk s
  have H1 : Hid (∀ b W, Sx w W b 40 10 2 1 [ts6] [] → Calls Tryz.prog 18 #[.pointer (some ⟨b, 0, none⟩), .string ⟨#[115, 105, 120, 116, 101, 101, 110, 32, 98, 121, 116, 101, 115, 32, 33, 33]⟩] W fun e w' => e = .returned (.bool true) ∧ w' = W) := fun b W s => hasX w W b 40 10 2 1 [ts6] [] ts6 (by decide) s
  have R2 : Hid (∀ b W, Sx w W b 40 10 2 1 [ts6] [] → Calls Tryz.prog 17 #[.pointer (some ⟨b, 0, none⟩)] W fun e w' => e = .returned (.int .i64 0) ∧ Sx w w' b 40 10 3 2 [] []) := fun b W s => srot_ok w W b 40 10 2 1 [ts6] [] (by decide) (by decide) hk s
  have A3 : Hid (∀ b W, Sx w W b 40 10 3 2 [] [] → Calls Tryz.prog 16 #[.pointer (some ⟨b, 0, none⟩), .string ⟨#[115, 105, 120, 116, 101, 101, 110, 32, 98, 121, 116, 101, 115, 32, 33, 33]⟩] W fun e w' => e = .returned (.int .i64 0) ∧ Sx w w' b 40 10 4 2 [] [ts6]) := fun b W s => sadd_ok w W b 40 10 3 2 [] [] ts6 rfl (by simp) (by decide) (by decide) (by decide) hk s
  have E1 : Hid (∀ b W, Sx w W b 40 10 4 2 [] [ts6] → Calls Tryz.prog 9 #[.pointer (some ⟨b, 0, none⟩)] W fun e w' => e = .returned (.int .i64 2) ∧ w' = W) := fun b W s => epochX w W b 40 10 4 2 [] [ts6] s
  clear hk
  go_enter Tryz.func6, Tryz.ntmps6
  go_wp2_with fail
  refine Calls.mono NW.out ?_
  rintro e w1 ⟨p, F, rfl, I1, -, -⟩
  have J1 : Hid (Dl w w1 p F (up 40 zs [])) := I1
  clear NW I1
  go_wp2_with fail
  refine Calls.mono (OP.out p F w1 J1.out) ?_
  rintro e w2 ⟨b, rfl, s2⟩
  have J2 : Hid _ := s2
  clear OP J1 s2
  go_wp2_with fail
  refine Calls.mono (A1.out b w2 J2.out) ?_
  rintro e w3 ⟨rfl, s3⟩
  have J3 : Hid _ := s3
  clear A1 J2 s3
  go_wp2_with fail
  refine Calls.mono (A2.out b w3 J3.out) ?_
  rintro e w4 ⟨rfl, rfl⟩
  clear A2
  go_wp2_with fail
  refine Calls.mono (R1.out b w4 J3.out) ?_
  rintro e w5 ⟨rfl, s5⟩
  have J5 : Hid _ := s5
  clear R1 J3 s5
  go_wp2_with fail
  refine Calls.mono (H1.out b w5 J5.out) ?_
  rintro e w6 ⟨rfl, rfl⟩
  clear H1
  go_wp2_with fail
  refine Calls.mono (R2.out b w6 J5.out) ?_
  rintro e w7 ⟨rfl, s7⟩
  have J7 : Hid _ := s7
  clear R2 J5 s7
  go_wp2_with fail
  refine Calls.mono (A3.out b w7 J7.out) ?_
  rintro e w8 ⟨rfl, s8⟩
  have J8 : Hid _ := s8
  clear A3 J7 s8
  go_wp2_with fail
  refine Calls.mono (E1.out b w8 J8.out) ?_
  rintro e w9 ⟨rfl, rfl⟩
  have BB : Hid (Below w.heap.size w w9) := Sx.below J8.out
  clear E1 J8
  go_wp2
  go_ret
  exact ⟨rfl, BB.out⟩
end Go.Proofs.YtageoeogofeckaaGreatDoor
